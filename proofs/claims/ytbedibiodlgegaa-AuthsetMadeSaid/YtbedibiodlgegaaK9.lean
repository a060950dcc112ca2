/- The keys of events: Select of both. Bound: a million entries. -/
import Derived.Test.YtbedibiodlgegaaK8
import Derived.Test.YtbedibiodlgegaaQL10
namespace Go.Proofs.Ytbedibiodlgegaa
open Go Go.RowKit
set_option linter.unusedVariables false
set_option linter.unusedSimpArgs false

/-- The ids that are selected for some keys. -/
def selL (kl sl : List Ky.Rc) : List Int := kl.filterMap fun q => (sl.find? (isK q.k q.key)).map (·.id)
theorem sel_snoc {kl sl : List Ky.Rc} {k : Nat} (h : k < kl.length) : selL (kl.take (k + 1)) sl = selL (kl.take k) sl ++ ((sl.find? (isK (kl.getD k Ky.t0).k (kl.getD k Ky.t0).key)).map (·.id)).toList := by
  unfold selL
  rw [List.take_succ_eq_append_getElem h, List.filterMap_append, Ky.getD_at h]
  cases hp : (sl.find? (isK kl[k].k kl[k].key)).map (·.id) <;> simp [hp]
theorem sel_len (kl sl : List Ky.Rc) : (selL kl sl).length ≤ kl.length := List.length_filterMap_le _ _
theorem find_at {l : List Ky.Rc} {f : Ky.Rc → Bool} {k : Nat} (hk : k < l.length) (h : f (l.getD k Ky.t0) = true) (hn : ∀ j, j < k → f (l.getD j Ky.t0) = false) : l.find? f = some (l.getD k Ky.t0) := by
  rw [Ky.getD_at hk] at h ⊢
  rw [List.find?_eq_some_iff_getElem]
  refine ⟨h, k, hk, rfl, fun j hj => ?_⟩
  have := hn j hj
  rw [Ky.getD_at (by omega)] at this
  simpa using this
theorem find_no {l : List Ky.Rc} {f : Ky.Rc → Bool} (hn : ∀ j, j < l.length → f (l.getD j Ky.t0) = false) : l.find? f = none := by
  rw [List.find?_eq_none]
  intro x hx
  obtain ⟨j, hj, rfl⟩ := List.getElem_of_mem hx
  have := hn j hj
  rw [Ky.getD_at hj] at this
  rw [this]; decide
/-- Either the first entry is at some place, or there is none. -/
theorem fst_cases (l : List Ky.Rc) (f : Ky.Rc → Bool) : (∃ k : Nat, k < l.length ∧ fstI l f = k ∧ l.find? f = some (l.getD k Ky.t0)) ∨ (fstI l f = -1 ∧ l.find? f = none) := by
  unfold fstI
  cases hf : (List.range l.length).find? (fun j => f (l.getD j Ky.t0)) with
  | some j =>
    have h1 := List.find?_some hf
    have h2 : j < l.length := by simpa using List.mem_of_find?_eq_some hf
    refine .inl ⟨j, h2, rfl, find_at h2 h1 (fun i hi => ?_)⟩
    rw [List.find?_eq_some_iff_getElem] at hf
    obtain ⟨_, m, hm, e, hn⟩ := hf
    simp only [List.getElem_range] at e hn
    subst e
    have := hn i hi
    simpa using this
  | none =>
    rw [List.find?_eq_none] at hf
    exact .inr ⟨rfl, find_no (fun j hj => by have := hf j (by simpa using hj); simpa using this)⟩
/-- A state's ids are numbers of the program. -/
def FitI (l : List Ky.Rc) : Prop := ∀ p ∈ l, i64B p.id
theorem sel_fit {kl sl : List Ky.Rc} (h : FitI sl) : ∀ z ∈ selL kl sl, i64B z := by
  intro z hz
  unfold selL at hz
  obtain ⟨q, _, h2⟩ := List.mem_filterMap.1 hz
  rw [Option.map_eq_some_iff] at h2
  obtain ⟨p, hp, rfl⟩ := h2
  exact h p (List.mem_of_find?_eq_some hp)
theorem info3 : (Try.prog.info? 3).map (fun i => (i.zero, i.size, i.bytes)) = some (some (.int .i64 0), 1, 8) := by kernel_rfl
theorem int_src2 (w : World) (x : Int) : Src (w.alloc (.cells #[.int .i64 x] 3)) (some ⟨w.heap.size, 0, none⟩) 1 1 1 [.int .i64 x] :=
  ⟨rfl, (fun e => by cases e), .inr ⟨w.heap.size, 0, rfl, by simp, fun j u hu => by rw [Nat.zero_add]; exact (blk_new w [.int .i64 x] 3).cell hu⟩, by simp [Value.oneCell']⟩
def IntP (w : World) (zs : List Int) (e : Ending) (w' : World) : Prop := ∃ A c, e = .returned (.slice A zs.length c) ∧ Q.Ints w' A zs.length c zs ∧ Below w.heap.size w w'
set_option maxRecDepth 100000 in
set_option maxHeartbeats 8000000 in
theorem select16 (e : Evd) (A : Option Addr) (n c : Nat) (sl : List Ky.Rc) (w : World) (h : Wfe e) (hs : EnR w A n c sl) (hn : n ≤ 1000000) : Calls Try.prog 16 #[.agg (cellsE e).toArray, .slice A n c] w (IntP w (Q.M.st (selL (keysE e) sl))) := by
  show Calls Try.prog 16 #[.agg #[.int .i64 e.e0, .string e.e1, .string e.e2, .int .i64 e.e3, .bool e.e4, .string e.e5, .int .i64 e.e6, .int .i64 e.e7, .slice e.a8 e.n8 e.c8, .slice e.a9 e.n9 e.c9, .string e.C.tx, .int .i64 e.C.n, .int .i64 e.C.tg, .bool e.C.th, .string e.C.via, .slice e.a.aA e.C.nA e.a.aC, .slice e.a.dA e.C.nD e.a.dC, .slice e.a.uA e.C.lv.nU e.a.uC, .slice e.a.kA e.C.lv.nK e.a.kC, .int .i64 e.C.lv.d, .int .i64 e.C.lv.x3, .int .i64 e.C.lv.x4, .int .i64 e.C.lv.x5, .int .i64 e.C.lv.x6, .int .i64 e.C.lv.x7, .int .i64 e.C.lv.x8, .int .i64 e.e26, .string e.e27, .int .i64 e.e28], .slice A n c] w _
  have BA := Lib.hid (((Below.refl w.heap.size w).alloc (Nat.le_refl _) (.cells #[.int .i64 e.e0, .string e.e1, .string e.e2, .int .i64 e.e3, .bool e.e4, .string e.e5, .int .i64 e.e6, .int .i64 e.e7, .slice e.a8 e.n8 e.c8, .slice e.a9 e.n9 e.c9, .string e.C.tx, .int .i64 e.C.n, .int .i64 e.C.tg, .bool e.C.th, .string e.C.via, .slice e.a.aA e.C.nA e.a.aC, .slice e.a.dA e.C.nD e.a.dC, .slice e.a.uA e.C.lv.nU e.a.uC, .slice e.a.kA e.C.lv.nK e.a.kC, .int .i64 e.C.lv.d, .int .i64 e.C.lv.x3, .int .i64 e.C.lv.x4, .int .i64 e.C.lv.x5, .int .i64 e.C.lv.x6, .int .i64 e.C.lv.x7, .int .i64 e.C.lv.x8, .int .i64 e.e26, .string e.e27, .int .i64 e.e28] 34)).alloc (by simp) (.cells #[] 3))
  have HK := Lib.hid (keysOf29 w.heap.size 0 e.e3 e.e2 e.e5 e.C.n ((w.alloc (.cells #[.int .i64 e.e0, .string e.e1, .string e.e2, .int .i64 e.e3, .bool e.e4, .string e.e5, .int .i64 e.e6, .int .i64 e.e7, .slice e.a8 e.n8 e.c8, .slice e.a9 e.n9 e.c9, .string e.C.tx, .int .i64 e.C.n, .int .i64 e.C.tg, .bool e.C.th, .string e.C.via, .slice e.a.aA e.C.nA e.a.aC, .slice e.a.dA e.C.nD e.a.dC, .slice e.a.uA e.C.lv.nU e.a.uC, .slice e.a.kA e.C.lv.nK e.a.kC, .int .i64 e.C.lv.d, .int .i64 e.C.lv.x3, .int .i64 e.C.lv.x4, .int .i64 e.C.lv.x5, .int .i64 e.C.lv.x6, .int .i64 e.C.lv.x7, .int .i64 e.C.lv.x8, .int .i64 e.e26, .string e.e27, .int .i64 e.e28] 34)).alloc (.cells #[] 3)) ((ev_box w).below ((Below.refl _ _).alloc (Nat.le_refl _) _)) h.s2 h.s5)
  have OM : Hid (((w.alloc (.cells #[.int .i64 e.e0, .string e.e1, .string e.e2, .int .i64 e.e3, .bool e.e4, .string e.e5, .int .i64 e.e6, .int .i64 e.e7, .slice e.a8 e.n8 e.c8, .slice e.a9 e.n9 e.c9, .string e.C.tx, .int .i64 e.C.n, .int .i64 e.C.tg, .bool e.C.th, .string e.C.via, .slice e.a.aA e.C.nA e.a.aC, .slice e.a.dA e.C.nD e.a.dC, .slice e.a.uA e.C.lv.nU e.a.uC, .slice e.a.kA e.C.lv.nK e.a.kC, .int .i64 e.C.lv.d, .int .i64 e.C.lv.x3, .int .i64 e.C.lv.x4, .int .i64 e.C.lv.x5, .int .i64 e.C.lv.x6, .int .i64 e.C.lv.x7, .int .i64 e.C.lv.x8, .int .i64 e.e26, .string e.e27, .int .i64 e.e28] 34)).alloc (.cells #[] 3)).ownsRow w.heap.size 3 1 (.slice (some ⟨w.heap.size + 1, 0, none⟩) 0 0) 0 []) := Lib.hid (by
    have := World.ownsRow_made (base := w.heap.size) (e := 3) (size := 1) (w.alloc (.cells #[.int .i64 e.e0, .string e.e1, .string e.e2, .int .i64 e.e3, .bool e.e4, .string e.e5, .int .i64 e.e6, .int .i64 e.e7, .slice e.a8 e.n8 e.c8, .slice e.a9 e.n9 e.c9, .string e.C.tx, .int .i64 e.C.n, .int .i64 e.C.tg, .bool e.C.th, .string e.C.via, .slice e.a.aA e.C.nA e.a.aC, .slice e.a.dA e.C.nD e.a.dC, .slice e.a.uA e.C.lv.nU e.a.uC, .slice e.a.kA e.C.lv.nK e.a.kC, .int .i64 e.C.lv.d, .int .i64 e.C.lv.x3, .int .i64 e.C.lv.x4, .int .i64 e.C.lv.x5, .int .i64 e.C.lv.x6, .int .i64 e.C.lv.x7, .int .i64 e.C.lv.x8, .int .i64 e.e26, .string e.e27, .int .i64 e.e28] 34)) #[] 0 (by simp) (by decide) (by simp)
    rw [World.size_alloc] at this
    exact this)
  have HS := Lib.hid hs
  have HSl := Lib.hid (show sl.length = n by have := hs.len; rwa [List.length_map] at this)
  have HL := Lib.hid (keys_len e)
  obtain ⟨i0, hi, hz0, hz1, hz2⟩ := info_parts info3
  have HI := Lib.hid (And.intro hi (And.intro hz0 (And.intro hz1 hz2)))
  unfold KeysP at HK
  rw [show Ky.keysL e.e3 e.e2 e.e5 e.C.n = keysE e from rfl] at HK
  unfold IntP
  generalize keysE e = kl at HK HL ⊢
  clear h hs hi hz0 hz1 hz2
  go_enter Try.func16, Try.ntmps16
  go_wp2_with (first
    | (go_at_call 29; (with_reducible refine HK.out.mono ?_); rintro e1 w3 ⟨A3, c3, rfl, hr, hb, hf3⟩; have R3 := Lib.hid hr; have HF3 := Lib.hid (show ∀ b off, A3 = some ⟨b, off, none⟩ → w.heap.size + 1 < b from fun b off e => by have := hf3 b off e; simp only [World.size_alloc] at this; omega); have O3 := Lib.hid (own_keep OM.out (fun b _ hl => hb.block b hl)); have B3 := Lib.hid (BA.out.trans (hb.mono BA.out.size)); clear hr hb hf3)
    | go_in)
  have hll := HL.out
  go_loopg [5, 7, 8, 12] kl.length (fun gg s5 _ _ s12 wr => ∃ (kk : Nat) (v : Value), kk ≤ kl.length ∧ kl.length - kk ≤ gg ∧ v = s5 ∧ s12 = .int .i64 (kk : Int) ∧ Hid (wr.ownsRow w.heap.size 3 1 v (selL (kl.take kk) sl).length ((selL (kl.take kk) sl).map (Value.int .i64))) ∧ Hid (w3.heap.size ≤ wr.heap.size ∧ OBk (w.heap.size + 1) w3.heap.size v) ∧ Hid (Below w.heap.size w wr) ∧ Hid (Ky.Rcs wr A3 kl.length c3 kl))
  case atStart => exact ⟨0, _, Nat.zero_le _, by omega, rfl, rfl, O3, Lib.hid ⟨Nat.le_refl _, _, rfl, .inl rfl⟩, B3, R3⟩
  case round =>
    obtain ⟨kk, v, hkk, hg, rfl, rfl, HO, HZ, BW, HR⟩ := hrel
    have hsl : (selL (kl.take kk) sl).length ≤ kk := by have := sel_len (kl.take kk) sl; rw [List.length_take] at this; omega
    by_cases hlt : kk < kl.length
    · have hltz : (kk : Int) < (kl.length : Int) := by omega
      have hk0 : (0 : Int) ≤ (kk : Int) := by omega
      obtain ⟨b0, off0, e0, hb0, _⟩ := R3.out.get hlt
      obtain ⟨b3, off3, e3, hl3, hr, _⟩ := HR.out.get hlt
      have HNE := Lib.hid (HZ.out.2.ne (HF3.out b0 off0 e0) hb0)
      have HTk := Lib.hid (sel_snoc (sl := sl) hlt)
      rw [e0] at e3
      simp only [Option.some.injEq, Addr.mk.injEq, and_true] at e3
      obtain ⟨rfl, rfl⟩ := e3
      have hzz := HZ.out.1
      generalize kl.getD kk Ky.t0 = q at hr HTk
      have q0 : wr.cell? ⟨b0, off0 + kk * 3, none⟩ = some (.int .i64 q.k) := hr 0 _ rfl
      have q1 : wr.cell? ⟨b0, off0 + kk * 3 + 1, none⟩ = some (.string q.key) := hr 1 _ rfl
      have q2 : wr.cell? ⟨b0, off0 + kk * 3 + 2, none⟩ = some (.int .i64 q.id) := hr 2 _ rfl
      have XK := Lib.hid (show Blk (wr.alloc (.cells #[.int .i64 q.k, .string q.key, .int .i64 q.id] 64)) wr.heap.size (Ky.enc q) 64 from blk_new wr (Ky.enc q) 64)
      have BK := Lib.hid ((Below.refl wr.heap.size wr).alloc (Nat.le_refl _) (.cells #[.int .i64 q.k, .string q.key, .int .i64 q.id] 64))
      have HX := Lib.hid (index31 A n c sl wr.heap.size q _ (HS.out.below (BW.out.trans (BK.out.mono BW.out.size))) hn XK.out)
      clear hr
      subst e0
      rcases fst_cases sl (isK q.k q.key) with ⟨j, hj, hf, hfd⟩ | ⟨hf, hfd⟩
      · rw [hf] at HX
        have HTk2 := Lib.hid (show selL (kl.take (kk + 1)) sl = selL (kl.take kk) sl ++ [(sl.getD j Ky.t0).id] by rw [HTk.out, hfd]; rfl)
        rw [HSl.out] at hj
        obtain ⟨bs, os, eA, hbs, h3⟩ := EnR.three HS.out hj
        have hjz : (j : Int) < (n : Int) := by omega
        have hj0 : (0 : Int) ≤ (j : Int) := by omega
        have HId := Lib.hid (fun v (hb : Below w.heap.size w v) => (h3 v hb).2.2)
        generalize (sl.getD j Ky.t0).id = z at HTk2 HId
        generalize selL (kl.take kk) sl = l at HO HTk2 hsl
        clear h3 hf hfd HTk
        subst eA
        go_wp2_with (first
          | (go_at_call 31; (with_reducible refine HX.out.mono ?_); rintro e1 w4 ⟨rfl, hb⟩; have C4 := Lib.hid (BK.out.trans (hb.mono BK.out.size)); have B4 := Lib.hid (BW.out.trans (C4.out.mono BW.out.size)); have r4 := HId.out _ B4.out; have O4 := Lib.hid (own_keep HO.out (fun b _ hl => C4.out.block b hl)); have R4 := Lib.hid (HR.out.below C4.out); have z4 := C4.out.size; clear hb)
          | (at_builtin; refine wpList_append_any _ rfl _ _ 23 rfl w.heap.size 3 i0 _ 1 8 Try.underlying23 HI.out.1 HI.out.2.1 HI.out.2.2.1 HI.out.2.2.2 rfl (by decide) _ l.length (l.map (Value.int .i64)) rfl (O4.out.alloc _) _ 1 1 [.int .i64 z] rfl (int_src2 _ z) (by unfold maxLen; omega) (by omega) (B4.out.alloc B4.out.size _).size ?_; intro v5 w5 hgr; have B5 := Lib.hid (hgr.below (B4.out.alloc B4.out.size _) (O4.out.alloc _)); have O5 := Lib.hid hgr.own; have R5 := Lib.hid ((R4.out.below ((Below.refl _ _).alloc (Nat.le_refl _) _)).grew hgr.grow (fun b off e => by cases e; exact HNE.out)); have Z5 := Lib.hid (show w3.heap.size ≤ w5.heap.size ∧ OBk (w.heap.size + 1) w3.heap.size v5 from ⟨by have := hgr.grow.size; simp only [World.size_alloc] at this; omega, obk_step HZ.out.2 hgr.at_ (by simp only [World.size_alloc]; omega)⟩); clear hgr)
          | go_in)
        go_roundg (kl.length - (kk + 1))
        case measure => omega
        case rel => exact ⟨kk + 1, v5, by omega, by omega, rfl, by go_num, Lib.hid (by rw [HTk2.out, List.length_append, List.map_append]; exact O5.out), Z5, B5, R5⟩
      · rw [hf] at HX
        have HTk2 := Lib.hid (show selL (kl.take (kk + 1)) sl = selL (kl.take kk) sl by rw [HTk.out, hfd]; simp)
        generalize selL (kl.take kk) sl = l at HO HTk2 hsl
        clear hf hfd HTk
        go_wp2_with (first
          | (go_at_call 31; (with_reducible refine HX.out.mono ?_); rintro e1 w4 ⟨rfl, hb⟩; have C4 := Lib.hid (BK.out.trans (hb.mono BK.out.size)); have B4 := Lib.hid (BW.out.trans (C4.out.mono BW.out.size)); have O4 := Lib.hid (own_keep HO.out (fun b _ hl => C4.out.block b hl)); have R4 := Lib.hid (HR.out.below C4.out); have Z4 := Lib.hid (show w3.heap.size ≤ w4.heap.size ∧ OBk (w.heap.size + 1) w3.heap.size v from ⟨Nat.le_trans HZ.out.1 C4.out.size, HZ.out.2⟩); clear hb)
          | go_in)
        go_roundg (kl.length - (kk + 1))
        case measure => omega
        case rel => exact ⟨kk + 1, v, by omega, by omega, rfl, by go_num, Lib.hid (by rw [HTk2.out]; exact O4.out), Z4, B4, R4⟩
    · have hltz : ¬ (kk : Int) < (kl.length : Int) := by omega
      have HTa := Lib.hid (show kl.take kk = kl from List.take_of_length_le (by omega))
      rw [HTa.out] at HO hsl
      obtain ⟨A4, c4, rfl, _⟩ := Q.own_slice HO.out
      have HSo := Lib.hid (Q.sortedN_any A4 (selL kl sl).length c4 (selL kl sl) wr (Q.own_ints HO.out (by omega)))
      go_wp2_with (first
        | (go_at_call 33; (with_reducible refine HSo.out.mono ?_); rintro e1 w4 ⟨A5, c5, rfl, hi, hb, _⟩; have I5 := Lib.hid hi; have B5 := Lib.hid (BW.out.trans (hb.mono BW.out.size)); clear hi hb)
        | go_in)
      go_ret
      exact ⟨_, _, rfl, I5.out, B5.out⟩
set_option maxRecDepth 100000 in
set_option maxHeartbeats 16000000 in
theorem rselect17 (e : Evd) (A : Option Addr) (n c : Nat) (sl : List Ky.Rc) (w : World) (h : Wfe e) (hs : EnR w A n c sl) (hn : n ≤ 1000000) : Calls Try.prog 17 #[.agg (cellsE e).toArray, .slice A n c] w (IntP w (Q.M.st (selL (keysE e) sl))) := by
  show Calls Try.prog 17 #[.agg #[.int .i64 e.e0, .string e.e1, .string e.e2, .int .i64 e.e3, .bool e.e4, .string e.e5, .int .i64 e.e6, .int .i64 e.e7, .slice e.a8 e.n8 e.c8, .slice e.a9 e.n9 e.c9, .string e.C.tx, .int .i64 e.C.n, .int .i64 e.C.tg, .bool e.C.th, .string e.C.via, .slice e.a.aA e.C.nA e.a.aC, .slice e.a.dA e.C.nD e.a.dC, .slice e.a.uA e.C.lv.nU e.a.uC, .slice e.a.kA e.C.lv.nK e.a.kC, .int .i64 e.C.lv.d, .int .i64 e.C.lv.x3, .int .i64 e.C.lv.x4, .int .i64 e.C.lv.x5, .int .i64 e.C.lv.x6, .int .i64 e.C.lv.x7, .int .i64 e.C.lv.x8, .int .i64 e.e26, .string e.e27, .int .i64 e.e28], .slice A n c] w _
  have BA := Lib.hid ((Below.refl w.heap.size w).alloc (Nat.le_refl _) (.cells #[.int .i64 e.e0, .string e.e1, .string e.e2, .int .i64 e.e3, .bool e.e4, .string e.e5, .int .i64 e.e6, .int .i64 e.e7, .slice e.a8 e.n8 e.c8, .slice e.a9 e.n9 e.c9, .string e.C.tx, .int .i64 e.C.n, .int .i64 e.C.tg, .bool e.C.th, .string e.C.via, .slice e.a.aA e.C.nA e.a.aC, .slice e.a.dA e.C.nD e.a.dC, .slice e.a.uA e.C.lv.nU e.a.uC, .slice e.a.kA e.C.lv.nK e.a.kC, .int .i64 e.C.lv.d, .int .i64 e.C.lv.x3, .int .i64 e.C.lv.x4, .int .i64 e.C.lv.x5, .int .i64 e.C.lv.x6, .int .i64 e.C.lv.x7, .int .i64 e.C.lv.x8, .int .i64 e.e26, .string e.e27, .int .i64 e.e28] 34))
  have XA := Lib.hid (show Blk (w.alloc (.cells #[.int .i64 e.e0, .string e.e1, .string e.e2, .int .i64 e.e3, .bool e.e4, .string e.e5, .int .i64 e.e6, .int .i64 e.e7, .slice e.a8 e.n8 e.c8, .slice e.a9 e.n9 e.c9, .string e.C.tx, .int .i64 e.C.n, .int .i64 e.C.tg, .bool e.C.th, .string e.C.via, .slice e.a.aA e.C.nA e.a.aC, .slice e.a.dA e.C.nD e.a.dC, .slice e.a.uA e.C.lv.nU e.a.uC, .slice e.a.kA e.C.lv.nK e.a.kC, .int .i64 e.C.lv.d, .int .i64 e.C.lv.x3, .int .i64 e.C.lv.x4, .int .i64 e.C.lv.x5, .int .i64 e.C.lv.x6, .int .i64 e.C.lv.x7, .int .i64 e.C.lv.x8, .int .i64 e.e26, .string e.e27, .int .i64 e.e28] 34)) w.heap.size (cellsE e) 34 from blk_new w (cellsE e) 34)
  have HK := Lib.hid (show Calls Try.prog 13 #[.agg #[.int .i64 e.e0, .string e.e1, .string e.e2, .int .i64 e.e3, .bool e.e4, .string e.e5, .int .i64 e.e6, .int .i64 e.e7, .slice e.a8 e.n8 e.c8, .slice e.a9 e.n9 e.c9, .string e.C.tx, .int .i64 e.C.n, .int .i64 e.C.tg, .bool e.C.th, .string e.C.via, .slice e.a.aA e.C.nA e.a.aC, .slice e.a.dA e.C.nD e.a.dC, .slice e.a.uA e.C.lv.nU e.a.uC, .slice e.a.kA e.C.lv.nK e.a.kC, .int .i64 e.C.lv.d, .int .i64 e.C.lv.x3, .int .i64 e.C.lv.x4, .int .i64 e.C.lv.x5, .int .i64 e.C.lv.x6, .int .i64 e.C.lv.x7, .int .i64 e.C.lv.x8, .int .i64 e.e26, .string e.e27, .int .i64 e.e28]] (w.alloc (.cells #[.int .i64 e.e0, .string e.e1, .string e.e2, .int .i64 e.e3, .bool e.e4, .string e.e5, .int .i64 e.e6, .int .i64 e.e7, .slice e.a8 e.n8 e.c8, .slice e.a9 e.n9 e.c9, .string e.C.tx, .int .i64 e.C.n, .int .i64 e.C.tg, .bool e.C.th, .string e.C.via, .slice e.a.aA e.C.nA e.a.aC, .slice e.a.dA e.C.nD e.a.dC, .slice e.a.uA e.C.lv.nU e.a.uC, .slice e.a.kA e.C.lv.nK e.a.kC, .int .i64 e.C.lv.d, .int .i64 e.C.lv.x3, .int .i64 e.C.lv.x4, .int .i64 e.C.lv.x5, .int .i64 e.C.lv.x6, .int .i64 e.C.lv.x7, .int .i64 e.C.lv.x8, .int .i64 e.e26, .string e.e27, .int .i64 e.e28] 34)) (EnsP (w.alloc (.cells #[.int .i64 e.e0, .string e.e1, .string e.e2, .int .i64 e.e3, .bool e.e4, .string e.e5, .int .i64 e.e6, .int .i64 e.e7, .slice e.a8 e.n8 e.c8, .slice e.a9 e.n9 e.c9, .string e.C.tx, .int .i64 e.C.n, .int .i64 e.C.tg, .bool e.C.th, .string e.C.via, .slice e.a.aA e.C.nA e.a.aC, .slice e.a.dA e.C.nD e.a.dC, .slice e.a.uA e.C.lv.nU e.a.uC, .slice e.a.kA e.C.lv.nK e.a.kC, .int .i64 e.C.lv.d, .int .i64 e.C.lv.x3, .int .i64 e.C.lv.x4, .int .i64 e.C.lv.x5, .int .i64 e.C.lv.x6, .int .i64 e.C.lv.x7, .int .i64 e.C.lv.x8, .int .i64 e.e26, .string e.e27, .int .i64 e.e28] 34)) (keysE e)) from rkeys13 e _ h)
  have HS := Lib.hid hs
  have HSl := Lib.hid (show sl.length = n by have := hs.len; rwa [List.length_map] at this)
  have HL := Lib.hid (keys_len e)
  unfold EnsP at HK
  unfold IntP
  generalize keysE e = kl at HK HL ⊢
  clear h hs
  go_enter Try.func17, Try.ntmps17
  go_wp2_with (first
    | (refine wpList_load_mid rfl 34 _ rfl w.heap.size 0 rfl (cellsE e) _ XA.out.range Try.underlying34 rfl size39 ?_)
    | (go_at_call 13; (with_reducible refine HK.out.mono ?_); rintro e1 w3 ⟨A3, c3, rfl, hr, hb⟩; have R3 := Lib.hid hr; have B3 := Lib.hid (BA.out.trans (hb.mono BA.out.size)); have OI := Lib.hid (Q.none_ints w3 w.heap.size B3.out.size); have B3a := Lib.hid (B3.out.alloc B3.out.size (.cells #[] 3)); clear hr hb)
    | go_in)
  have hll := HL.out
  have R3a := Lib.hid (show EnR (w3.alloc (.cells #[] 3)) A3 kl.length c3 kl from R3.out.below ((Below.refl _ _).alloc (Nat.le_refl _) _))
  go_loopg [6, 7, 8, 9] kl.length (fun gg s6 s7 _ _ wr => ∃ (kk m : Nat) (A1 : Option Addr) (c1 : Nat) (acc : List Int), kk ≤ kl.length ∧ kl.length - kk ≤ gg ∧ m ≤ kk ∧ s6 = .slice A1 m c1 ∧ s7 = .int .i64 (kk : Int) ∧ Hid (Q.Ints wr A1 m c1 acc) ∧ Hid (acc = Q.M.puts [] (selL (kl.take kk) sl)) ∧ Hid (Below w.heap.size w wr) ∧ Hid (EnR wr A3 kl.length c3 kl))
  case atStart => exact ⟨0, 0, _, _, [], Nat.zero_le _, by omega, Nat.le_refl _, rfl, rfl, OI, Lib.hid rfl, B3a, R3a⟩
  case round =>
    obtain ⟨kk, m, A1, c1, acc, hkk, hg, hmk, rfl, rfl, HA, HX, BW, HR⟩ := hrel
    by_cases hlt : kk < kl.length
    · have hltz : (kk : Int) < (kl.length : Int) := by omega
      have hk0 : (0 : Int) ≤ (kk : Int) := by omega
      obtain ⟨b3, off3, e3, hb3, h3⟩ := EnR.three HR.out hlt
      have HQ := Lib.hid h3
      have HTk := Lib.hid (sel_snoc (sl := sl) hlt)
      generalize kl.getD kk Ky.t0 = q at HQ HTk
      clear h3
      subst e3
      go_wp2
      have BWz := BW.out.size
      go_loopg [6, 8, 9] n (fun gg s6 s8 s9 wq => ∃ jj : Nat, jj ≤ n ∧ n - jj ≤ gg ∧ s9 = .int .i64 (jj : Int) ∧ Hid (Below wr.heap.size wr wq) ∧ ((s8 = .bool false ∧ s6 = .slice A1 m c1 ∧ Hid (∀ j, j < jj → isK q.k q.key (sl.getD j Ky.t0) = false)) ∨ (s8 = .bool true ∧ ∃ m' A' c' acc', s6 = .slice A' m' c' ∧ m' ≤ m + 1 ∧ Hid (Q.Ints wq A' m' c' acc') ∧ Hid (acc' = Q.M.puts [] (selL (kl.take (kk + 1)) sl)))))
      case atStart => exact ⟨0, Nat.zero_le _, by omega, rfl, Lib.hid (Below.refl _ _), .inl ⟨rfl, rfl, Lib.hid (fun j hj => absurd hj (Nat.not_lt_zero _))⟩⟩
      case round =>
        obtain ⟨jj, hjj, hgg, rfl, BQ, hcase⟩ := hrel
        have BWQ := Lib.hid (BW.out.trans (BQ.out.mono BW.out.size))
        rcases hcase with ⟨rfl, rfl, HJ⟩ | ⟨rfl, m', A', c', acc', rfl, hm', HA', HX'⟩
        · by_cases hl2 : jj < n
          · have hl2z : (jj : Int) < (n : Int) := by omega
            have hj0 : (0 : Int) ≤ (jj : Int) := by omega
            obtain ⟨bs, os, eA, hbs, h3⟩ := EnR.three (HS.out.below BWQ.out) hl2
            have HP := Lib.hid h3
            have HQ1 := Lib.hid (fun v (hb : Below wr.heap.size wr v) => HQ.out v (BQ.out.trans (hb.mono BQ.out.size)))
            have HN : Hid (isK q.k q.key (sl.getD jj Ky.t0) = false → ∀ j, j < jj + 1 → isK q.k q.key (sl.getD j Ky.t0) = false) := Lib.hid (fun h j hj => by
              by_cases e : j = jj
              · subst e; exact h
              · exact HJ.out j (by omega))
            have HY := Lib.hid (fun h => find_at (l := sl) (f := isK q.k q.key) (k := jj) (by rw [HSl.out]; exact hl2) h HJ.out)
            clear h3
            generalize sl.getD jj Ky.t0 = p at HP HN HY
            by_cases z1 : p.k = q.k
            · have z1' : (p.k == q.k) = true := beq_iff_eq.2 z1
              by_cases z2 : p.key.toList = q.key.toList
              · have z2' : (p.key.toList == q.key.toList) = true := beq_iff_eq.2 z2
                have HT2 := Lib.hid (show selL (kl.take (kk + 1)) sl = selL (kl.take kk) sl ++ [p.id] by rw [HTk.out, HY.out (decide_eq_true ⟨z1, z2⟩)]; rfl)
                have HPu := Lib.hid (fun v (hb : Below wr.heap.size wr v) => Q.put_any A1 m c1 acc p.id v ((HA.out.below BQ.out).below hb) (by omega))
                have HLP := Lib.hid (Q.M.len_put acc p.id)
                have HML := Lib.hid HA.out.len
                clear HN HY z1 z2
                subst eA
                go_upto_region 10 with (fail)
                refine wp_region_held_drew (S := (fun y => Below wr.heap.size wr y)) (by kernel_rfl) ((Below.refl wr.heap.size wr).drew) (fun hH0 => ?_)
                generalize hy0 : World.drew _ = y0 at hH0 ⊢
                have RB0 : Hid (Below wr.heap.size wr y0) := Lib.hid hH0
                have CB0 := Lib.hid (BQ.out.trans (RB0.out.mono BQ.out.size))
                clear hy0
                refine wpAnyH_take (i := 0) (oi := ({ dst := some 29, op := Op.move (Operand.tmp 1), type := 40, pos := "ref.go:59", after := #[], guard := none } : Oper)) (v := ?hv1) rfl (by kernel_rfl) (by kernel_rfl) (by kernel_rfl) (fun _ _ _ h => h) (Or.inl ⟨by rfl, ?hy1⟩) (by assumption) ?hr1
                case hy1 => (intro w hSw; (try dsimp only at hSw); go_simp; (try with_reducible rfl))
                try simp only [Act.put, List.setIfInBounds_toArray, List.set_cons_zero, List.set_cons_succ]
                refine wpAnyH_take (i := 1) (oi := ({ dst := some 30, op := Op.move (Operand.tmp 9), type := 3, pos := "ref.go:59", after := #[], guard := none } : Oper)) (v := ?hv2) rfl (by kernel_rfl) (by kernel_rfl) (by kernel_rfl) (fun _ _ _ h => h) (Or.inl ⟨by rfl, ?hy2⟩) (by assumption) ?hr2
                case hy2 => (intro w hSw; (try dsimp only at hSw); go_simp; (try with_reducible rfl))
                try simp only [Act.put, List.setIfInBounds_toArray, List.set_cons_zero, List.set_cons_succ]
                refine wpAnyH_take (i := 2) (oi := ({ dst := some 31, op := Op.indexAddr 40 (Operand.tmp 29) (Operand.tmp 30), type := 0, pos := "ref.go:59", after := #[{ on := 0, ground := Ground.data }, { on := 1, ground := Ground.data }], guard := none } : Oper)) (v := ?hv3) rfl (by kernel_rfl) (by kernel_rfl) (by kernel_rfl) (fun _ _ _ h => h) (Or.inl ⟨by rfl, ?hy3⟩) (by assumption) ?hr3
                case hy3 => (intro w hSw; (try dsimp only at hSw); go_simp; (try with_reducible rfl))
                try simp only [Act.put, List.setIfInBounds_toArray, List.set_cons_zero, List.set_cons_succ]
                refine wpAnyH_take (i := 3) (oi := ({ dst := some 32, op := Op.fieldAddr 56 (Operand.tmp 31) 0, type := 0, pos := "ref.go:59", after := #[{ on := 2, ground := Ground.data }], guard := none } : Oper)) (v := ?hv4) rfl (by kernel_rfl) (by kernel_rfl) (by kernel_rfl) (fun _ _ _ h => h) (Or.inl ⟨by rfl, ?hy4⟩) (by assumption) ?hr4
                case hy4 => (intro w hSw; (try dsimp only at hSw); go_simp; (try with_reducible rfl))
                try simp only [Act.put, List.setIfInBounds_toArray, List.set_cons_zero, List.set_cons_succ]
                refine wpAnyH_take (i := 4) (oi := ({ dst := some 33, op := Op.load 22 (Operand.tmp 32), type := 22, pos := "ref.go:59", after := #[{ on := 3, ground := Ground.data }], guard := none } : Oper)) (v := .int .i64 p.k) rfl (by kernel_rfl) (by kernel_rfl) (by kernel_rfl) (fun _ _ _ h => h) (Or.inl ⟨by rfl, fun w0 hw0 => by obtain ⟨q0, q1, q2⟩ := HP.out w0 hw0; go_simp⟩) (by assumption) ?_
                try simp only [Act.put, List.setIfInBounds_toArray, List.set_cons_zero, List.set_cons_succ]
                refine wpAnyH_take (i := 5) (oi := ({ dst := some 34, op := Op.move (Operand.tmp 5), type := 37, pos := "ref.go:59", after := #[], guard := none } : Oper)) (v := ?hv5) rfl (by kernel_rfl) (by kernel_rfl) (by kernel_rfl) (fun _ _ _ h => h) (Or.inl ⟨by rfl, ?hy5⟩) (by assumption) ?hr5
                case hy5 => (intro w hSw; (try dsimp only at hSw); go_simp; (try with_reducible rfl))
                try simp only [Act.put, List.setIfInBounds_toArray, List.set_cons_zero, List.set_cons_succ]
                refine wpAnyH_take (i := 6) (oi := ({ dst := some 35, op := Op.move (Operand.tmp 7), type := 3, pos := "ref.go:59", after := #[], guard := none } : Oper)) (v := ?hv6) rfl (by kernel_rfl) (by kernel_rfl) (by kernel_rfl) (fun _ _ _ h => h) (Or.inl ⟨by rfl, ?hy6⟩) (by assumption) ?hr6
                case hy6 => (intro w hSw; (try dsimp only at hSw); go_simp; (try with_reducible rfl))
                try simp only [Act.put, List.setIfInBounds_toArray, List.set_cons_zero, List.set_cons_succ]
                refine wpAnyH_take (i := 7) (oi := ({ dst := some 36, op := Op.indexAddr 37 (Operand.tmp 34) (Operand.tmp 35), type := 0, pos := "ref.go:59", after := #[{ on := 5, ground := Ground.data }, { on := 6, ground := Ground.data }], guard := none } : Oper)) (v := ?hv7) rfl (by kernel_rfl) (by kernel_rfl) (by kernel_rfl) (fun _ _ _ h => h) (Or.inl ⟨by rfl, ?hy7⟩) (by assumption) ?hr7
                case hy7 => (intro w hSw; (try dsimp only at hSw); go_simp; (try with_reducible rfl))
                try simp only [Act.put, List.setIfInBounds_toArray, List.set_cons_zero, List.set_cons_succ]
                refine wpAnyH_take (i := 8) (oi := ({ dst := some 37, op := Op.fieldAddr 56 (Operand.tmp 36) 0, type := 0, pos := "ref.go:59", after := #[{ on := 7, ground := Ground.data }], guard := none } : Oper)) (v := ?hv8) rfl (by kernel_rfl) (by kernel_rfl) (by kernel_rfl) (fun _ _ _ h => h) (Or.inl ⟨by rfl, ?hy8⟩) (by assumption) ?hr8
                case hy8 => (intro w hSw; (try dsimp only at hSw); go_simp; (try with_reducible rfl))
                try simp only [Act.put, List.setIfInBounds_toArray, List.set_cons_zero, List.set_cons_succ]
                refine wpAnyH_take (i := 9) (oi := ({ dst := some 38, op := Op.load 22 (Operand.tmp 37), type := 22, pos := "ref.go:59", after := #[{ on := 8, ground := Ground.data }], guard := none } : Oper)) (v := .int .i64 q.k) rfl (by kernel_rfl) (by kernel_rfl) (by kernel_rfl) (fun _ _ _ h => h) (Or.inl ⟨by rfl, fun w0 hw0 => by obtain ⟨q0, q1, q2⟩ := HQ1.out w0 hw0; go_simp⟩) (by assumption) ?_
                try simp only [Act.put, List.setIfInBounds_toArray, List.set_cons_zero, List.set_cons_succ]
                refine wpAnyH_take (i := 10) (oi := ({ dst := some 39, op := Op.binOp BinOp.eql 22 (Operand.tmp 33) (Operand.tmp 38) 22, type := 4, pos := "ref.go:59", after := #[{ on := 4, ground := Ground.data }, { on := 9, ground := Ground.data }], guard := none } : Oper)) (v := ?hv9) rfl (by kernel_rfl) (by kernel_rfl) (by kernel_rfl) (fun _ _ _ h => h) (Or.inl ⟨by rfl, ?hy9⟩) (by assumption) ?hr9
                case hy9 => (intro w hSw; (try dsimp only at hSw); go_simp; (try with_reducible rfl))
                try simp only [Act.put, List.setIfInBounds_toArray, List.set_cons_zero, List.set_cons_succ]
                refine wpAnyH_take (i := 11) (oi := ({ dst := some 40, op := Op.move (Operand.tmp 39), type := 4, pos := "ref.go:59", after := #[{ on := 10, ground := Ground.data }], guard := none } : Oper)) (v := ?hv10) rfl (by kernel_rfl) (by kernel_rfl) (by kernel_rfl) (fun _ _ _ h => h) (Or.inl ⟨by rfl, ?hy10⟩) (by assumption) ?hr10
                case hy10 => (intro w hSw; (try dsimp only at hSw); go_simp; (try with_reducible rfl))
                try simp only [Act.put, List.setIfInBounds_toArray, List.set_cons_zero, List.set_cons_succ]
                refine wpAnyH_take (i := 12) (oi := ({ dst := some 41, op := Op.move (Operand.tmp 1), type := 40, pos := "ref.go:59", after := #[{ on := 11, ground := Ground.guard }], guard := some (11, true) } : Oper)) (v := ?hv11) rfl (by kernel_rfl) (by kernel_rfl) (by kernel_rfl) (fun _ _ _ h => h) (Or.inl ⟨by rfl, ?hy11⟩) (by assumption) ?hr11
                case hy11 => (intro w hSw; (try dsimp only at hSw); go_simp; (try with_reducible rfl))
                try simp only [Act.put, List.setIfInBounds_toArray, List.set_cons_zero, List.set_cons_succ]
                refine wpAnyH_take (i := 13) (oi := ({ dst := some 42, op := Op.move (Operand.tmp 9), type := 3, pos := "ref.go:59", after := #[{ on := 11, ground := Ground.guard }], guard := some (11, true) } : Oper)) (v := ?hv12) rfl (by kernel_rfl) (by kernel_rfl) (by kernel_rfl) (fun _ _ _ h => h) (Or.inl ⟨by rfl, ?hy12⟩) (by assumption) ?hr12
                case hy12 => (intro w hSw; (try dsimp only at hSw); go_simp; (try with_reducible rfl))
                try simp only [Act.put, List.setIfInBounds_toArray, List.set_cons_zero, List.set_cons_succ]
                refine wpAnyH_take (i := 14) (oi := ({ dst := some 43, op := Op.indexAddr 40 (Operand.tmp 41) (Operand.tmp 42), type := 0, pos := "ref.go:59", after := #[{ on := 12, ground := Ground.data }, { on := 13, ground := Ground.data }, { on := 11, ground := Ground.guard }], guard := some (11, true) } : Oper)) (v := ?hv13) rfl (by kernel_rfl) (by kernel_rfl) (by kernel_rfl) (fun _ _ _ h => h) (Or.inl ⟨by rfl, ?hy13⟩) (by assumption) ?hr13
                case hy13 => (intro w hSw; (try dsimp only at hSw); go_simp; (try with_reducible rfl))
                try simp only [Act.put, List.setIfInBounds_toArray, List.set_cons_zero, List.set_cons_succ]
                refine wpAnyH_take (i := 15) (oi := ({ dst := some 44, op := Op.fieldAddr 56 (Operand.tmp 43) 1, type := 0, pos := "ref.go:59", after := #[{ on := 14, ground := Ground.data }, { on := 11, ground := Ground.guard }], guard := some (11, true) } : Oper)) (v := ?hv14) rfl (by kernel_rfl) (by kernel_rfl) (by kernel_rfl) (fun _ _ _ h => h) (Or.inl ⟨by rfl, ?hy14⟩) (by assumption) ?hr14
                case hy14 => (intro w hSw; (try dsimp only at hSw); go_simp; (try with_reducible rfl))
                try simp only [Act.put, List.setIfInBounds_toArray, List.set_cons_zero, List.set_cons_succ]
                refine wpAnyH_take (i := 16) (oi := ({ dst := some 45, op := Op.load 9 (Operand.tmp 44), type := 9, pos := "ref.go:59", after := #[{ on := 15, ground := Ground.data }, { on := 11, ground := Ground.guard }], guard := some (11, true) } : Oper)) (v := .string p.key) rfl (by kernel_rfl) (by kernel_rfl) (by kernel_rfl) (fun _ _ _ h => h) (Or.inl ⟨by rfl, fun w0 hw0 => by obtain ⟨q0, q1, q2⟩ := HP.out w0 hw0; go_simp⟩) (by assumption) ?_
                try simp only [Act.put, List.setIfInBounds_toArray, List.set_cons_zero, List.set_cons_succ]
                refine wpAnyH_take (i := 17) (oi := ({ dst := some 46, op := Op.move (Operand.tmp 5), type := 37, pos := "ref.go:59", after := #[{ on := 11, ground := Ground.guard }], guard := some (11, true) } : Oper)) (v := ?hv15) rfl (by kernel_rfl) (by kernel_rfl) (by kernel_rfl) (fun _ _ _ h => h) (Or.inl ⟨by rfl, ?hy15⟩) (by assumption) ?hr15
                case hy15 => (intro w hSw; (try dsimp only at hSw); go_simp; (try with_reducible rfl))
                try simp only [Act.put, List.setIfInBounds_toArray, List.set_cons_zero, List.set_cons_succ]
                refine wpAnyH_take (i := 18) (oi := ({ dst := some 47, op := Op.move (Operand.tmp 7), type := 3, pos := "ref.go:59", after := #[{ on := 11, ground := Ground.guard }], guard := some (11, true) } : Oper)) (v := ?hv16) rfl (by kernel_rfl) (by kernel_rfl) (by kernel_rfl) (fun _ _ _ h => h) (Or.inl ⟨by rfl, ?hy16⟩) (by assumption) ?hr16
                case hy16 => (intro w hSw; (try dsimp only at hSw); go_simp; (try with_reducible rfl))
                try simp only [Act.put, List.setIfInBounds_toArray, List.set_cons_zero, List.set_cons_succ]
                refine wpAnyH_take (i := 19) (oi := ({ dst := some 48, op := Op.indexAddr 37 (Operand.tmp 46) (Operand.tmp 47), type := 0, pos := "ref.go:59", after := #[{ on := 17, ground := Ground.data }, { on := 18, ground := Ground.data }, { on := 11, ground := Ground.guard }], guard := some (11, true) } : Oper)) (v := ?hv17) rfl (by kernel_rfl) (by kernel_rfl) (by kernel_rfl) (fun _ _ _ h => h) (Or.inl ⟨by rfl, ?hy17⟩) (by assumption) ?hr17
                case hy17 => (intro w hSw; (try dsimp only at hSw); go_simp; (try with_reducible rfl))
                try simp only [Act.put, List.setIfInBounds_toArray, List.set_cons_zero, List.set_cons_succ]
                refine wpAnyH_take (i := 20) (oi := ({ dst := some 49, op := Op.fieldAddr 56 (Operand.tmp 48) 1, type := 0, pos := "ref.go:59", after := #[{ on := 19, ground := Ground.data }, { on := 11, ground := Ground.guard }], guard := some (11, true) } : Oper)) (v := ?hv18) rfl (by kernel_rfl) (by kernel_rfl) (by kernel_rfl) (fun _ _ _ h => h) (Or.inl ⟨by rfl, ?hy18⟩) (by assumption) ?hr18
                case hy18 => (intro w hSw; (try dsimp only at hSw); go_simp; (try with_reducible rfl))
                try simp only [Act.put, List.setIfInBounds_toArray, List.set_cons_zero, List.set_cons_succ]
                refine wpAnyH_take (i := 21) (oi := ({ dst := some 50, op := Op.load 9 (Operand.tmp 49), type := 9, pos := "ref.go:59", after := #[{ on := 20, ground := Ground.data }, { on := 11, ground := Ground.guard }], guard := some (11, true) } : Oper)) (v := .string q.key) rfl (by kernel_rfl) (by kernel_rfl) (by kernel_rfl) (fun _ _ _ h => h) (Or.inl ⟨by rfl, fun w0 hw0 => by obtain ⟨q0, q1, q2⟩ := HQ1.out w0 hw0; go_simp⟩) (by assumption) ?_
                try simp only [Act.put, List.setIfInBounds_toArray, List.set_cons_zero, List.set_cons_succ]
                refine wpAnyH_take (i := 22) (oi := ({ dst := some 51, op := Op.binOp BinOp.eql 9 (Operand.tmp 45) (Operand.tmp 50) 9, type := 4, pos := "ref.go:59", after := #[{ on := 16, ground := Ground.data }, { on := 21, ground := Ground.data }, { on := 11, ground := Ground.guard }], guard := some (11, true) } : Oper)) (v := ?hv19) rfl (by kernel_rfl) (by kernel_rfl) (by kernel_rfl) (fun _ _ _ h => h) (Or.inl ⟨by rfl, ?hy19⟩) (by assumption) ?hr19
                case hy19 => (intro w hSw; (try dsimp only at hSw); go_simp; (try with_reducible rfl))
                try simp only [Act.put, List.setIfInBounds_toArray, List.set_cons_zero, List.set_cons_succ]
                refine wpAnyH_take (i := 23) (oi := ({ dst := some 52, op := Op.pick (Operand.tmp 40) (Operand.tmp 51) (Operand.const (Value.bool false)), type := 4, pos := "ref.go:59", after := #[{ on := 11, ground := Ground.data }, { on := 22, ground := Ground.data }], guard := none } : Oper)) (v := ?hv20) rfl (by kernel_rfl) (by kernel_rfl) (by kernel_rfl) (fun _ _ _ h => h) (Or.inl ⟨by rfl, ?hy20⟩) (by assumption) ?hr20
                case hy20 => (intro w hSw; (try dsimp only at hSw); go_simp; (try with_reducible rfl))
                try simp only [Act.put, List.setIfInBounds_toArray, List.set_cons_zero, List.set_cons_succ]
                refine wpAnyH_done (by kernel_rfl) ?_ _
                obtain ⟨r0, r1, r2⟩ := HP.out _ RB0.out
                go_wp2_with (first
                  | (go_at_call 34; (with_reducible refine (HPu.out _ RB0.out).mono ?_); rintro e1 w5 ⟨A5, c5, rfl, hi, hb⟩; have I5 := Lib.hid hi; have C5 := Lib.hid (CB0.out.trans (hb.mono CB0.out.size)); clear hi hb)
                  | go_in)
                go_roundg (n - (jj + 1))
                case measure => omega
                case rel => exact ⟨jj + 1, by omega, by omega, by go_num, C5, .inr ⟨rfl, _, A5, c5, _, rfl, by have := HLP.out; have := HML.out; omega, I5, Lib.hid (by rw [HT2.out, Q.M.puts_snoc, ← HX.out])⟩⟩
              · have z2' : (p.key.toList == q.key.toList) = false := beq_eq_false_iff_ne.2 z2
                have HN2 := Lib.hid (HN.out (decide_eq_false (fun h => z2 h.2)))
                clear HN HY z1 z2
                subst eA
                go_upto_region 10 with (fail)
                refine wp_region_held_drew (S := (fun y => Below wr.heap.size wr y)) (by kernel_rfl) ((Below.refl wr.heap.size wr).drew) (fun hH0 => ?_)
                generalize hy0 : World.drew _ = y0 at hH0 ⊢
                have RB0 : Hid (Below wr.heap.size wr y0) := Lib.hid hH0
                have CB0 := Lib.hid (BQ.out.trans (RB0.out.mono BQ.out.size))
                clear hy0
                refine wpAnyH_take (i := 0) (oi := ({ dst := some 29, op := Op.move (Operand.tmp 1), type := 40, pos := "ref.go:59", after := #[], guard := none } : Oper)) (v := ?hv21) rfl (by kernel_rfl) (by kernel_rfl) (by kernel_rfl) (fun _ _ _ h => h) (Or.inl ⟨by rfl, ?hy21⟩) (by assumption) ?hr21
                case hy21 => (intro w hSw; (try dsimp only at hSw); go_simp; (try with_reducible rfl))
                try simp only [Act.put, List.setIfInBounds_toArray, List.set_cons_zero, List.set_cons_succ]
                refine wpAnyH_take (i := 1) (oi := ({ dst := some 30, op := Op.move (Operand.tmp 9), type := 3, pos := "ref.go:59", after := #[], guard := none } : Oper)) (v := ?hv22) rfl (by kernel_rfl) (by kernel_rfl) (by kernel_rfl) (fun _ _ _ h => h) (Or.inl ⟨by rfl, ?hy22⟩) (by assumption) ?hr22
                case hy22 => (intro w hSw; (try dsimp only at hSw); go_simp; (try with_reducible rfl))
                try simp only [Act.put, List.setIfInBounds_toArray, List.set_cons_zero, List.set_cons_succ]
                refine wpAnyH_take (i := 2) (oi := ({ dst := some 31, op := Op.indexAddr 40 (Operand.tmp 29) (Operand.tmp 30), type := 0, pos := "ref.go:59", after := #[{ on := 0, ground := Ground.data }, { on := 1, ground := Ground.data }], guard := none } : Oper)) (v := ?hv23) rfl (by kernel_rfl) (by kernel_rfl) (by kernel_rfl) (fun _ _ _ h => h) (Or.inl ⟨by rfl, ?hy23⟩) (by assumption) ?hr23
                case hy23 => (intro w hSw; (try dsimp only at hSw); go_simp; (try with_reducible rfl))
                try simp only [Act.put, List.setIfInBounds_toArray, List.set_cons_zero, List.set_cons_succ]
                refine wpAnyH_take (i := 3) (oi := ({ dst := some 32, op := Op.fieldAddr 56 (Operand.tmp 31) 0, type := 0, pos := "ref.go:59", after := #[{ on := 2, ground := Ground.data }], guard := none } : Oper)) (v := ?hv24) rfl (by kernel_rfl) (by kernel_rfl) (by kernel_rfl) (fun _ _ _ h => h) (Or.inl ⟨by rfl, ?hy24⟩) (by assumption) ?hr24
                case hy24 => (intro w hSw; (try dsimp only at hSw); go_simp; (try with_reducible rfl))
                try simp only [Act.put, List.setIfInBounds_toArray, List.set_cons_zero, List.set_cons_succ]
                refine wpAnyH_take (i := 4) (oi := ({ dst := some 33, op := Op.load 22 (Operand.tmp 32), type := 22, pos := "ref.go:59", after := #[{ on := 3, ground := Ground.data }], guard := none } : Oper)) (v := .int .i64 p.k) rfl (by kernel_rfl) (by kernel_rfl) (by kernel_rfl) (fun _ _ _ h => h) (Or.inl ⟨by rfl, fun w0 hw0 => by obtain ⟨q0, q1, q2⟩ := HP.out w0 hw0; go_simp⟩) (by assumption) ?_
                try simp only [Act.put, List.setIfInBounds_toArray, List.set_cons_zero, List.set_cons_succ]
                refine wpAnyH_take (i := 5) (oi := ({ dst := some 34, op := Op.move (Operand.tmp 5), type := 37, pos := "ref.go:59", after := #[], guard := none } : Oper)) (v := ?hv25) rfl (by kernel_rfl) (by kernel_rfl) (by kernel_rfl) (fun _ _ _ h => h) (Or.inl ⟨by rfl, ?hy25⟩) (by assumption) ?hr25
                case hy25 => (intro w hSw; (try dsimp only at hSw); go_simp; (try with_reducible rfl))
                try simp only [Act.put, List.setIfInBounds_toArray, List.set_cons_zero, List.set_cons_succ]
                refine wpAnyH_take (i := 6) (oi := ({ dst := some 35, op := Op.move (Operand.tmp 7), type := 3, pos := "ref.go:59", after := #[], guard := none } : Oper)) (v := ?hv26) rfl (by kernel_rfl) (by kernel_rfl) (by kernel_rfl) (fun _ _ _ h => h) (Or.inl ⟨by rfl, ?hy26⟩) (by assumption) ?hr26
                case hy26 => (intro w hSw; (try dsimp only at hSw); go_simp; (try with_reducible rfl))
                try simp only [Act.put, List.setIfInBounds_toArray, List.set_cons_zero, List.set_cons_succ]
                refine wpAnyH_take (i := 7) (oi := ({ dst := some 36, op := Op.indexAddr 37 (Operand.tmp 34) (Operand.tmp 35), type := 0, pos := "ref.go:59", after := #[{ on := 5, ground := Ground.data }, { on := 6, ground := Ground.data }], guard := none } : Oper)) (v := ?hv27) rfl (by kernel_rfl) (by kernel_rfl) (by kernel_rfl) (fun _ _ _ h => h) (Or.inl ⟨by rfl, ?hy27⟩) (by assumption) ?hr27
                case hy27 => (intro w hSw; (try dsimp only at hSw); go_simp; (try with_reducible rfl))
                try simp only [Act.put, List.setIfInBounds_toArray, List.set_cons_zero, List.set_cons_succ]
                refine wpAnyH_take (i := 8) (oi := ({ dst := some 37, op := Op.fieldAddr 56 (Operand.tmp 36) 0, type := 0, pos := "ref.go:59", after := #[{ on := 7, ground := Ground.data }], guard := none } : Oper)) (v := ?hv28) rfl (by kernel_rfl) (by kernel_rfl) (by kernel_rfl) (fun _ _ _ h => h) (Or.inl ⟨by rfl, ?hy28⟩) (by assumption) ?hr28
                case hy28 => (intro w hSw; (try dsimp only at hSw); go_simp; (try with_reducible rfl))
                try simp only [Act.put, List.setIfInBounds_toArray, List.set_cons_zero, List.set_cons_succ]
                refine wpAnyH_take (i := 9) (oi := ({ dst := some 38, op := Op.load 22 (Operand.tmp 37), type := 22, pos := "ref.go:59", after := #[{ on := 8, ground := Ground.data }], guard := none } : Oper)) (v := .int .i64 q.k) rfl (by kernel_rfl) (by kernel_rfl) (by kernel_rfl) (fun _ _ _ h => h) (Or.inl ⟨by rfl, fun w0 hw0 => by obtain ⟨q0, q1, q2⟩ := HQ1.out w0 hw0; go_simp⟩) (by assumption) ?_
                try simp only [Act.put, List.setIfInBounds_toArray, List.set_cons_zero, List.set_cons_succ]
                refine wpAnyH_take (i := 10) (oi := ({ dst := some 39, op := Op.binOp BinOp.eql 22 (Operand.tmp 33) (Operand.tmp 38) 22, type := 4, pos := "ref.go:59", after := #[{ on := 4, ground := Ground.data }, { on := 9, ground := Ground.data }], guard := none } : Oper)) (v := ?hv29) rfl (by kernel_rfl) (by kernel_rfl) (by kernel_rfl) (fun _ _ _ h => h) (Or.inl ⟨by rfl, ?hy29⟩) (by assumption) ?hr29
                case hy29 => (intro w hSw; (try dsimp only at hSw); go_simp; (try with_reducible rfl))
                try simp only [Act.put, List.setIfInBounds_toArray, List.set_cons_zero, List.set_cons_succ]
                refine wpAnyH_take (i := 11) (oi := ({ dst := some 40, op := Op.move (Operand.tmp 39), type := 4, pos := "ref.go:59", after := #[{ on := 10, ground := Ground.data }], guard := none } : Oper)) (v := ?hv30) rfl (by kernel_rfl) (by kernel_rfl) (by kernel_rfl) (fun _ _ _ h => h) (Or.inl ⟨by rfl, ?hy30⟩) (by assumption) ?hr30
                case hy30 => (intro w hSw; (try dsimp only at hSw); go_simp; (try with_reducible rfl))
                try simp only [Act.put, List.setIfInBounds_toArray, List.set_cons_zero, List.set_cons_succ]
                refine wpAnyH_take (i := 12) (oi := ({ dst := some 41, op := Op.move (Operand.tmp 1), type := 40, pos := "ref.go:59", after := #[{ on := 11, ground := Ground.guard }], guard := some (11, true) } : Oper)) (v := ?hv31) rfl (by kernel_rfl) (by kernel_rfl) (by kernel_rfl) (fun _ _ _ h => h) (Or.inl ⟨by rfl, ?hy31⟩) (by assumption) ?hr31
                case hy31 => (intro w hSw; (try dsimp only at hSw); go_simp; (try with_reducible rfl))
                try simp only [Act.put, List.setIfInBounds_toArray, List.set_cons_zero, List.set_cons_succ]
                refine wpAnyH_take (i := 13) (oi := ({ dst := some 42, op := Op.move (Operand.tmp 9), type := 3, pos := "ref.go:59", after := #[{ on := 11, ground := Ground.guard }], guard := some (11, true) } : Oper)) (v := ?hv32) rfl (by kernel_rfl) (by kernel_rfl) (by kernel_rfl) (fun _ _ _ h => h) (Or.inl ⟨by rfl, ?hy32⟩) (by assumption) ?hr32
                case hy32 => (intro w hSw; (try dsimp only at hSw); go_simp; (try with_reducible rfl))
                try simp only [Act.put, List.setIfInBounds_toArray, List.set_cons_zero, List.set_cons_succ]
                refine wpAnyH_take (i := 14) (oi := ({ dst := some 43, op := Op.indexAddr 40 (Operand.tmp 41) (Operand.tmp 42), type := 0, pos := "ref.go:59", after := #[{ on := 12, ground := Ground.data }, { on := 13, ground := Ground.data }, { on := 11, ground := Ground.guard }], guard := some (11, true) } : Oper)) (v := ?hv33) rfl (by kernel_rfl) (by kernel_rfl) (by kernel_rfl) (fun _ _ _ h => h) (Or.inl ⟨by rfl, ?hy33⟩) (by assumption) ?hr33
                case hy33 => (intro w hSw; (try dsimp only at hSw); go_simp; (try with_reducible rfl))
                try simp only [Act.put, List.setIfInBounds_toArray, List.set_cons_zero, List.set_cons_succ]
                refine wpAnyH_take (i := 15) (oi := ({ dst := some 44, op := Op.fieldAddr 56 (Operand.tmp 43) 1, type := 0, pos := "ref.go:59", after := #[{ on := 14, ground := Ground.data }, { on := 11, ground := Ground.guard }], guard := some (11, true) } : Oper)) (v := ?hv34) rfl (by kernel_rfl) (by kernel_rfl) (by kernel_rfl) (fun _ _ _ h => h) (Or.inl ⟨by rfl, ?hy34⟩) (by assumption) ?hr34
                case hy34 => (intro w hSw; (try dsimp only at hSw); go_simp; (try with_reducible rfl))
                try simp only [Act.put, List.setIfInBounds_toArray, List.set_cons_zero, List.set_cons_succ]
                refine wpAnyH_take (i := 16) (oi := ({ dst := some 45, op := Op.load 9 (Operand.tmp 44), type := 9, pos := "ref.go:59", after := #[{ on := 15, ground := Ground.data }, { on := 11, ground := Ground.guard }], guard := some (11, true) } : Oper)) (v := .string p.key) rfl (by kernel_rfl) (by kernel_rfl) (by kernel_rfl) (fun _ _ _ h => h) (Or.inl ⟨by rfl, fun w0 hw0 => by obtain ⟨q0, q1, q2⟩ := HP.out w0 hw0; go_simp⟩) (by assumption) ?_
                try simp only [Act.put, List.setIfInBounds_toArray, List.set_cons_zero, List.set_cons_succ]
                refine wpAnyH_take (i := 17) (oi := ({ dst := some 46, op := Op.move (Operand.tmp 5), type := 37, pos := "ref.go:59", after := #[{ on := 11, ground := Ground.guard }], guard := some (11, true) } : Oper)) (v := ?hv35) rfl (by kernel_rfl) (by kernel_rfl) (by kernel_rfl) (fun _ _ _ h => h) (Or.inl ⟨by rfl, ?hy35⟩) (by assumption) ?hr35
                case hy35 => (intro w hSw; (try dsimp only at hSw); go_simp; (try with_reducible rfl))
                try simp only [Act.put, List.setIfInBounds_toArray, List.set_cons_zero, List.set_cons_succ]
                refine wpAnyH_take (i := 18) (oi := ({ dst := some 47, op := Op.move (Operand.tmp 7), type := 3, pos := "ref.go:59", after := #[{ on := 11, ground := Ground.guard }], guard := some (11, true) } : Oper)) (v := ?hv36) rfl (by kernel_rfl) (by kernel_rfl) (by kernel_rfl) (fun _ _ _ h => h) (Or.inl ⟨by rfl, ?hy36⟩) (by assumption) ?hr36
                case hy36 => (intro w hSw; (try dsimp only at hSw); go_simp; (try with_reducible rfl))
                try simp only [Act.put, List.setIfInBounds_toArray, List.set_cons_zero, List.set_cons_succ]
                refine wpAnyH_take (i := 19) (oi := ({ dst := some 48, op := Op.indexAddr 37 (Operand.tmp 46) (Operand.tmp 47), type := 0, pos := "ref.go:59", after := #[{ on := 17, ground := Ground.data }, { on := 18, ground := Ground.data }, { on := 11, ground := Ground.guard }], guard := some (11, true) } : Oper)) (v := ?hv37) rfl (by kernel_rfl) (by kernel_rfl) (by kernel_rfl) (fun _ _ _ h => h) (Or.inl ⟨by rfl, ?hy37⟩) (by assumption) ?hr37
                case hy37 => (intro w hSw; (try dsimp only at hSw); go_simp; (try with_reducible rfl))
                try simp only [Act.put, List.setIfInBounds_toArray, List.set_cons_zero, List.set_cons_succ]
                refine wpAnyH_take (i := 20) (oi := ({ dst := some 49, op := Op.fieldAddr 56 (Operand.tmp 48) 1, type := 0, pos := "ref.go:59", after := #[{ on := 19, ground := Ground.data }, { on := 11, ground := Ground.guard }], guard := some (11, true) } : Oper)) (v := ?hv38) rfl (by kernel_rfl) (by kernel_rfl) (by kernel_rfl) (fun _ _ _ h => h) (Or.inl ⟨by rfl, ?hy38⟩) (by assumption) ?hr38
                case hy38 => (intro w hSw; (try dsimp only at hSw); go_simp; (try with_reducible rfl))
                try simp only [Act.put, List.setIfInBounds_toArray, List.set_cons_zero, List.set_cons_succ]
                refine wpAnyH_take (i := 21) (oi := ({ dst := some 50, op := Op.load 9 (Operand.tmp 49), type := 9, pos := "ref.go:59", after := #[{ on := 20, ground := Ground.data }, { on := 11, ground := Ground.guard }], guard := some (11, true) } : Oper)) (v := .string q.key) rfl (by kernel_rfl) (by kernel_rfl) (by kernel_rfl) (fun _ _ _ h => h) (Or.inl ⟨by rfl, fun w0 hw0 => by obtain ⟨q0, q1, q2⟩ := HQ1.out w0 hw0; go_simp⟩) (by assumption) ?_
                try simp only [Act.put, List.setIfInBounds_toArray, List.set_cons_zero, List.set_cons_succ]
                refine wpAnyH_take (i := 22) (oi := ({ dst := some 51, op := Op.binOp BinOp.eql 9 (Operand.tmp 45) (Operand.tmp 50) 9, type := 4, pos := "ref.go:59", after := #[{ on := 16, ground := Ground.data }, { on := 21, ground := Ground.data }, { on := 11, ground := Ground.guard }], guard := some (11, true) } : Oper)) (v := ?hv39) rfl (by kernel_rfl) (by kernel_rfl) (by kernel_rfl) (fun _ _ _ h => h) (Or.inl ⟨by rfl, ?hy39⟩) (by assumption) ?hr39
                case hy39 => (intro w hSw; (try dsimp only at hSw); go_simp; (try with_reducible rfl))
                try simp only [Act.put, List.setIfInBounds_toArray, List.set_cons_zero, List.set_cons_succ]
                refine wpAnyH_take (i := 23) (oi := ({ dst := some 52, op := Op.pick (Operand.tmp 40) (Operand.tmp 51) (Operand.const (Value.bool false)), type := 4, pos := "ref.go:59", after := #[{ on := 11, ground := Ground.data }, { on := 22, ground := Ground.data }], guard := none } : Oper)) (v := ?hv40) rfl (by kernel_rfl) (by kernel_rfl) (by kernel_rfl) (fun _ _ _ h => h) (Or.inl ⟨by rfl, ?hy40⟩) (by assumption) ?hr40
                case hy40 => (intro w hSw; (try dsimp only at hSw); go_simp; (try with_reducible rfl))
                try simp only [Act.put, List.setIfInBounds_toArray, List.set_cons_zero, List.set_cons_succ]
                refine wpAnyH_done (by kernel_rfl) ?_ _
                go_wp2
                go_roundg (n - (jj + 1))
                case measure => omega
                case rel => exact ⟨jj + 1, by omega, by omega, by go_num, CB0, .inl ⟨rfl, rfl, HN2⟩⟩
            · have z1' : (p.k == q.k) = false := beq_eq_false_iff_ne.2 z1
              have HN2 := Lib.hid (HN.out (decide_eq_false (fun h => z1 h.1)))
              clear HN HY z1
              subst eA
              go_upto_region 10 with (fail)
              refine wp_region_held_drew (S := (fun y => Below wr.heap.size wr y)) (by kernel_rfl) ((Below.refl wr.heap.size wr).drew) (fun hH0 => ?_)
              generalize hy0 : World.drew _ = y0 at hH0 ⊢
              have RB0 : Hid (Below wr.heap.size wr y0) := Lib.hid hH0
              have CB0 := Lib.hid (BQ.out.trans (RB0.out.mono BQ.out.size))
              clear hy0
              refine wpAnyH_take (i := 0) (oi := ({ dst := some 29, op := Op.move (Operand.tmp 1), type := 40, pos := "ref.go:59", after := #[], guard := none } : Oper)) (v := ?hv41) rfl (by kernel_rfl) (by kernel_rfl) (by kernel_rfl) (fun _ _ _ h => h) (Or.inl ⟨by rfl, ?hy41⟩) (by assumption) ?hr41
              case hy41 => (intro w hSw; (try dsimp only at hSw); go_simp; (try with_reducible rfl))
              try simp only [Act.put, List.setIfInBounds_toArray, List.set_cons_zero, List.set_cons_succ]
              refine wpAnyH_take (i := 1) (oi := ({ dst := some 30, op := Op.move (Operand.tmp 9), type := 3, pos := "ref.go:59", after := #[], guard := none } : Oper)) (v := ?hv42) rfl (by kernel_rfl) (by kernel_rfl) (by kernel_rfl) (fun _ _ _ h => h) (Or.inl ⟨by rfl, ?hy42⟩) (by assumption) ?hr42
              case hy42 => (intro w hSw; (try dsimp only at hSw); go_simp; (try with_reducible rfl))
              try simp only [Act.put, List.setIfInBounds_toArray, List.set_cons_zero, List.set_cons_succ]
              refine wpAnyH_take (i := 2) (oi := ({ dst := some 31, op := Op.indexAddr 40 (Operand.tmp 29) (Operand.tmp 30), type := 0, pos := "ref.go:59", after := #[{ on := 0, ground := Ground.data }, { on := 1, ground := Ground.data }], guard := none } : Oper)) (v := ?hv43) rfl (by kernel_rfl) (by kernel_rfl) (by kernel_rfl) (fun _ _ _ h => h) (Or.inl ⟨by rfl, ?hy43⟩) (by assumption) ?hr43
              case hy43 => (intro w hSw; (try dsimp only at hSw); go_simp; (try with_reducible rfl))
              try simp only [Act.put, List.setIfInBounds_toArray, List.set_cons_zero, List.set_cons_succ]
              refine wpAnyH_take (i := 3) (oi := ({ dst := some 32, op := Op.fieldAddr 56 (Operand.tmp 31) 0, type := 0, pos := "ref.go:59", after := #[{ on := 2, ground := Ground.data }], guard := none } : Oper)) (v := ?hv44) rfl (by kernel_rfl) (by kernel_rfl) (by kernel_rfl) (fun _ _ _ h => h) (Or.inl ⟨by rfl, ?hy44⟩) (by assumption) ?hr44
              case hy44 => (intro w hSw; (try dsimp only at hSw); go_simp; (try with_reducible rfl))
              try simp only [Act.put, List.setIfInBounds_toArray, List.set_cons_zero, List.set_cons_succ]
              refine wpAnyH_take (i := 4) (oi := ({ dst := some 33, op := Op.load 22 (Operand.tmp 32), type := 22, pos := "ref.go:59", after := #[{ on := 3, ground := Ground.data }], guard := none } : Oper)) (v := .int .i64 p.k) rfl (by kernel_rfl) (by kernel_rfl) (by kernel_rfl) (fun _ _ _ h => h) (Or.inl ⟨by rfl, fun w0 hw0 => by obtain ⟨q0, q1, q2⟩ := HP.out w0 hw0; go_simp⟩) (by assumption) ?_
              try simp only [Act.put, List.setIfInBounds_toArray, List.set_cons_zero, List.set_cons_succ]
              refine wpAnyH_take (i := 5) (oi := ({ dst := some 34, op := Op.move (Operand.tmp 5), type := 37, pos := "ref.go:59", after := #[], guard := none } : Oper)) (v := ?hv45) rfl (by kernel_rfl) (by kernel_rfl) (by kernel_rfl) (fun _ _ _ h => h) (Or.inl ⟨by rfl, ?hy45⟩) (by assumption) ?hr45
              case hy45 => (intro w hSw; (try dsimp only at hSw); go_simp; (try with_reducible rfl))
              try simp only [Act.put, List.setIfInBounds_toArray, List.set_cons_zero, List.set_cons_succ]
              refine wpAnyH_take (i := 6) (oi := ({ dst := some 35, op := Op.move (Operand.tmp 7), type := 3, pos := "ref.go:59", after := #[], guard := none } : Oper)) (v := ?hv46) rfl (by kernel_rfl) (by kernel_rfl) (by kernel_rfl) (fun _ _ _ h => h) (Or.inl ⟨by rfl, ?hy46⟩) (by assumption) ?hr46
              case hy46 => (intro w hSw; (try dsimp only at hSw); go_simp; (try with_reducible rfl))
              try simp only [Act.put, List.setIfInBounds_toArray, List.set_cons_zero, List.set_cons_succ]
              refine wpAnyH_take (i := 7) (oi := ({ dst := some 36, op := Op.indexAddr 37 (Operand.tmp 34) (Operand.tmp 35), type := 0, pos := "ref.go:59", after := #[{ on := 5, ground := Ground.data }, { on := 6, ground := Ground.data }], guard := none } : Oper)) (v := ?hv47) rfl (by kernel_rfl) (by kernel_rfl) (by kernel_rfl) (fun _ _ _ h => h) (Or.inl ⟨by rfl, ?hy47⟩) (by assumption) ?hr47
              case hy47 => (intro w hSw; (try dsimp only at hSw); go_simp; (try with_reducible rfl))
              try simp only [Act.put, List.setIfInBounds_toArray, List.set_cons_zero, List.set_cons_succ]
              refine wpAnyH_take (i := 8) (oi := ({ dst := some 37, op := Op.fieldAddr 56 (Operand.tmp 36) 0, type := 0, pos := "ref.go:59", after := #[{ on := 7, ground := Ground.data }], guard := none } : Oper)) (v := ?hv48) rfl (by kernel_rfl) (by kernel_rfl) (by kernel_rfl) (fun _ _ _ h => h) (Or.inl ⟨by rfl, ?hy48⟩) (by assumption) ?hr48
              case hy48 => (intro w hSw; (try dsimp only at hSw); go_simp; (try with_reducible rfl))
              try simp only [Act.put, List.setIfInBounds_toArray, List.set_cons_zero, List.set_cons_succ]
              refine wpAnyH_take (i := 9) (oi := ({ dst := some 38, op := Op.load 22 (Operand.tmp 37), type := 22, pos := "ref.go:59", after := #[{ on := 8, ground := Ground.data }], guard := none } : Oper)) (v := .int .i64 q.k) rfl (by kernel_rfl) (by kernel_rfl) (by kernel_rfl) (fun _ _ _ h => h) (Or.inl ⟨by rfl, fun w0 hw0 => by obtain ⟨q0, q1, q2⟩ := HQ1.out w0 hw0; go_simp⟩) (by assumption) ?_
              try simp only [Act.put, List.setIfInBounds_toArray, List.set_cons_zero, List.set_cons_succ]
              refine wpAnyH_take (i := 10) (oi := ({ dst := some 39, op := Op.binOp BinOp.eql 22 (Operand.tmp 33) (Operand.tmp 38) 22, type := 4, pos := "ref.go:59", after := #[{ on := 4, ground := Ground.data }, { on := 9, ground := Ground.data }], guard := none } : Oper)) (v := ?hv49) rfl (by kernel_rfl) (by kernel_rfl) (by kernel_rfl) (fun _ _ _ h => h) (Or.inl ⟨by rfl, ?hy49⟩) (by assumption) ?hr49
              case hy49 => (intro w hSw; (try dsimp only at hSw); go_simp; (try with_reducible rfl))
              try simp only [Act.put, List.setIfInBounds_toArray, List.set_cons_zero, List.set_cons_succ]
              refine wpAnyH_take (i := 11) (oi := ({ dst := some 40, op := Op.move (Operand.tmp 39), type := 4, pos := "ref.go:59", after := #[{ on := 10, ground := Ground.data }], guard := none } : Oper)) (v := ?hv50) rfl (by kernel_rfl) (by kernel_rfl) (by kernel_rfl) (fun _ _ _ h => h) (Or.inl ⟨by rfl, ?hy50⟩) (by assumption) ?hr50
              case hy50 => (intro w hSw; (try dsimp only at hSw); go_simp; (try with_reducible rfl))
              try simp only [Act.put, List.setIfInBounds_toArray, List.set_cons_zero, List.set_cons_succ]
              refine wpAnyH_take (i := 12) (oi := ({ dst := some 41, op := Op.move (Operand.tmp 1), type := 40, pos := "ref.go:59", after := #[{ on := 11, ground := Ground.guard }], guard := some (11, true) } : Oper)) (v := undef) rfl (by kernel_rfl) (by kernel_rfl) (by kernel_rfl) (fun _ _ _ h => h) (Or.inr ⟨by rfl, rfl⟩) (by assumption) ?_
              try simp only [Act.put, List.setIfInBounds_toArray, List.set_cons_zero, List.set_cons_succ]
              refine wpAnyH_take (i := 13) (oi := ({ dst := some 42, op := Op.move (Operand.tmp 9), type := 3, pos := "ref.go:59", after := #[{ on := 11, ground := Ground.guard }], guard := some (11, true) } : Oper)) (v := undef) rfl (by kernel_rfl) (by kernel_rfl) (by kernel_rfl) (fun _ _ _ h => h) (Or.inr ⟨by rfl, rfl⟩) (by assumption) ?_
              try simp only [Act.put, List.setIfInBounds_toArray, List.set_cons_zero, List.set_cons_succ]
              refine wpAnyH_take (i := 14) (oi := ({ dst := some 43, op := Op.indexAddr 40 (Operand.tmp 41) (Operand.tmp 42), type := 0, pos := "ref.go:59", after := #[{ on := 12, ground := Ground.data }, { on := 13, ground := Ground.data }, { on := 11, ground := Ground.guard }], guard := some (11, true) } : Oper)) (v := undef) rfl (by kernel_rfl) (by kernel_rfl) (by kernel_rfl) (fun _ _ _ h => h) (Or.inr ⟨by rfl, rfl⟩) (by assumption) ?_
              try simp only [Act.put, List.setIfInBounds_toArray, List.set_cons_zero, List.set_cons_succ]
              refine wpAnyH_take (i := 15) (oi := ({ dst := some 44, op := Op.fieldAddr 56 (Operand.tmp 43) 1, type := 0, pos := "ref.go:59", after := #[{ on := 14, ground := Ground.data }, { on := 11, ground := Ground.guard }], guard := some (11, true) } : Oper)) (v := undef) rfl (by kernel_rfl) (by kernel_rfl) (by kernel_rfl) (fun _ _ _ h => h) (Or.inr ⟨by rfl, rfl⟩) (by assumption) ?_
              try simp only [Act.put, List.setIfInBounds_toArray, List.set_cons_zero, List.set_cons_succ]
              refine wpAnyH_take (i := 16) (oi := ({ dst := some 45, op := Op.load 9 (Operand.tmp 44), type := 9, pos := "ref.go:59", after := #[{ on := 15, ground := Ground.data }, { on := 11, ground := Ground.guard }], guard := some (11, true) } : Oper)) (v := undef) rfl (by kernel_rfl) (by kernel_rfl) (by kernel_rfl) (fun _ _ _ h => h) (Or.inr ⟨by rfl, rfl⟩) (by assumption) ?_
              try simp only [Act.put, List.setIfInBounds_toArray, List.set_cons_zero, List.set_cons_succ]
              refine wpAnyH_take (i := 17) (oi := ({ dst := some 46, op := Op.move (Operand.tmp 5), type := 37, pos := "ref.go:59", after := #[{ on := 11, ground := Ground.guard }], guard := some (11, true) } : Oper)) (v := undef) rfl (by kernel_rfl) (by kernel_rfl) (by kernel_rfl) (fun _ _ _ h => h) (Or.inr ⟨by rfl, rfl⟩) (by assumption) ?_
              try simp only [Act.put, List.setIfInBounds_toArray, List.set_cons_zero, List.set_cons_succ]
              refine wpAnyH_take (i := 18) (oi := ({ dst := some 47, op := Op.move (Operand.tmp 7), type := 3, pos := "ref.go:59", after := #[{ on := 11, ground := Ground.guard }], guard := some (11, true) } : Oper)) (v := undef) rfl (by kernel_rfl) (by kernel_rfl) (by kernel_rfl) (fun _ _ _ h => h) (Or.inr ⟨by rfl, rfl⟩) (by assumption) ?_
              try simp only [Act.put, List.setIfInBounds_toArray, List.set_cons_zero, List.set_cons_succ]
              refine wpAnyH_take (i := 19) (oi := ({ dst := some 48, op := Op.indexAddr 37 (Operand.tmp 46) (Operand.tmp 47), type := 0, pos := "ref.go:59", after := #[{ on := 17, ground := Ground.data }, { on := 18, ground := Ground.data }, { on := 11, ground := Ground.guard }], guard := some (11, true) } : Oper)) (v := undef) rfl (by kernel_rfl) (by kernel_rfl) (by kernel_rfl) (fun _ _ _ h => h) (Or.inr ⟨by rfl, rfl⟩) (by assumption) ?_
              try simp only [Act.put, List.setIfInBounds_toArray, List.set_cons_zero, List.set_cons_succ]
              refine wpAnyH_take (i := 20) (oi := ({ dst := some 49, op := Op.fieldAddr 56 (Operand.tmp 48) 1, type := 0, pos := "ref.go:59", after := #[{ on := 19, ground := Ground.data }, { on := 11, ground := Ground.guard }], guard := some (11, true) } : Oper)) (v := undef) rfl (by kernel_rfl) (by kernel_rfl) (by kernel_rfl) (fun _ _ _ h => h) (Or.inr ⟨by rfl, rfl⟩) (by assumption) ?_
              try simp only [Act.put, List.setIfInBounds_toArray, List.set_cons_zero, List.set_cons_succ]
              refine wpAnyH_take (i := 21) (oi := ({ dst := some 50, op := Op.load 9 (Operand.tmp 49), type := 9, pos := "ref.go:59", after := #[{ on := 20, ground := Ground.data }, { on := 11, ground := Ground.guard }], guard := some (11, true) } : Oper)) (v := undef) rfl (by kernel_rfl) (by kernel_rfl) (by kernel_rfl) (fun _ _ _ h => h) (Or.inr ⟨by rfl, rfl⟩) (by assumption) ?_
              try simp only [Act.put, List.setIfInBounds_toArray, List.set_cons_zero, List.set_cons_succ]
              refine wpAnyH_take (i := 22) (oi := ({ dst := some 51, op := Op.binOp BinOp.eql 9 (Operand.tmp 45) (Operand.tmp 50) 9, type := 4, pos := "ref.go:59", after := #[{ on := 16, ground := Ground.data }, { on := 21, ground := Ground.data }, { on := 11, ground := Ground.guard }], guard := some (11, true) } : Oper)) (v := undef) rfl (by kernel_rfl) (by kernel_rfl) (by kernel_rfl) (fun _ _ _ h => h) (Or.inr ⟨by rfl, rfl⟩) (by assumption) ?_
              try simp only [Act.put, List.setIfInBounds_toArray, List.set_cons_zero, List.set_cons_succ]
              refine wpAnyH_take (i := 23) (oi := ({ dst := some 52, op := Op.pick (Operand.tmp 40) (Operand.tmp 51) (Operand.const (Value.bool false)), type := 4, pos := "ref.go:59", after := #[{ on := 11, ground := Ground.data }, { on := 22, ground := Ground.data }], guard := none } : Oper)) (v := ?hv51) rfl (by kernel_rfl) (by kernel_rfl) (by kernel_rfl) (fun _ _ _ h => h) (Or.inl ⟨by rfl, ?hy51⟩) (by assumption) ?hr51
              case hy51 => (intro w hSw; (try dsimp only at hSw); go_simp; (try with_reducible rfl))
              try simp only [Act.put, List.setIfInBounds_toArray, List.set_cons_zero, List.set_cons_succ]
              refine wpAnyH_done (by kernel_rfl) ?_ _
              go_wp2
              go_roundg (n - (jj + 1))
              case measure => omega
              case rel => exact ⟨jj + 1, by omega, by omega, by go_num, CB0, .inl ⟨rfl, rfl, HN2⟩⟩
          · have hl2z : ¬ (jj : Int) < (n : Int) := by omega
            have HT2 := Lib.hid (show selL (kl.take (kk + 1)) sl = selL (kl.take kk) sl by rw [HTk.out, find_no (l := sl) (f := isK q.k q.key) (fun j hj => HJ.out j (by rw [HSl.out] at hj; omega))]; simp)
            go_wp2
            go_roundg (kl.length - (kk + 1))
            case measure => omega
            case rel => exact ⟨kk + 1, m, A1, c1, acc, by omega, by omega, by omega, rfl, by go_num, Lib.hid (HA.out.below BQ.out), Lib.hid (by rw [HT2.out]; exact HX.out), BWQ, Lib.hid (HR.out.below BQ.out)⟩
        · by_cases hl2 : jj < n
          · have hl2z : (jj : Int) < (n : Int) := by omega
            go_wp2
            go_roundg (kl.length - (kk + 1))
            case measure => omega
            case rel => exact ⟨kk + 1, m', A', c', acc', by omega, by omega, by omega, rfl, by go_num, HA', HX', BWQ, Lib.hid (HR.out.below BQ.out)⟩
          · have hl2z : ¬ (jj : Int) < (n : Int) := by omega
            go_wp2
            go_roundg (kl.length - (kk + 1))
            case measure => omega
            case rel => exact ⟨kk + 1, m', A', c', acc', by omega, by omega, by omega, rfl, by go_num, HA', HX', BWQ, Lib.hid (HR.out.below BQ.out)⟩
    · have hltz : ¬ (kk : Int) < (kl.length : Int) := by omega
      have HTa := Lib.hid (show kl.take kk = kl from List.take_of_length_le (by omega))
      have HE := Lib.hid (show acc = Q.M.st (selL kl sl) by rw [HX.out, HTa.out, Q.M.puts_st])
      go_wp2
      go_ret
      rw [← HE.out]
      have hml := HA.out.len
      subst hml
      exact ⟨A1, c1, rfl, HA.out, BW.out⟩
end Go.Proofs.Ytbedibiodlgegaa
