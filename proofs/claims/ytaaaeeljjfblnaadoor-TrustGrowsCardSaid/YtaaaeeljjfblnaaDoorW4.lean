/- trust.Send: to which devices a message may be sent. Conditions: short texts, at most 10000 devices; the listed table. -/
import Derived.Test.YtaaaeeljjfblnaaDoorW3
namespace Go.Proofs.YtaaaeeljjfblnaaDoor
open Go.RowKit
set_option linter.unusedVariables false
set_option linter.unusedSimpArgs false
set_option maxRecDepth 100000

theorem info9s : (Tryd.prog.info? 9).map (fun i => (i.zero, i.size, i.bytes)) = some (some (.string ByteArray.empty), 1, 16) := by kernel_rfl
theorem src_one (w : World) (x : ByteArray) : Src (w.alloc (.cells #[.string x] 9)) (some ⟨w.heap.size, 0, none⟩) 1 1 1 (T.cl [⟨x⟩]) := by
  refine ⟨rfl, (fun h => by cases h), .inr ⟨w.heap.size, 0, rfl, by simp, fun j u hu => ?_⟩, T.cl_one _⟩
  have h1 := (blk_new w [.string x] 9).cell (i := j) (v := u) (by simpa [T.cl, T.enc] using hu)
  rw [Nat.zero_add]
  exact h1
abbrev zD : List Value := [.string ⟨#[]⟩, .int .i64 0, .bool false]
theorem tr_cases (o t : Ks) (dev : ByteArray) (ver : List Int) (blk : List T.Rc) : tr o t dev ver blk = 0 ∨ tr o t dev ver blk = 1 ∨ tr o t dev ver blk = 2 ∨ tr o t dev ver blk = 3 := by
  unfold tr
  rcases rl_cases o t dev ver blk with h | h | h | h
  · rw [h]; exact .inl rfl
  · rw [h]; exact .inr (.inl rfl)
  · rw [h]; exact .inr (.inr (.inr rfl))
  · rw [h]; exact .inr (.inr (.inl rfl))
/-- The ids of the devices that are not blocked, among the first. -/
def sndL (o t : Ks) (ver : List Int) (blk : List T.Rc) : Nat → List T.Rc
  | 0 => []
  | k + 1 => sndL o t ver blk k ++ (if tr o t (t.D k).id ver blk = 0 then [] else [⟨(t.D k).id⟩])
theorem snd_fit {o t : Ks} {ver : List Int} {blk : List T.Rc} : ∀ {k : Nat}, (∀ j, j < k → (t.D j).id.size ≤ 1000000) → ∀ p ∈ sndL o t ver blk k, T.fitR p := by
  intro k
  induction k with
  | zero => intro _ p hp; cases hp
  | succ k ih =>
    intro h p hp
    unfold sndL at hp
    rcases List.mem_append.1 hp with h1 | h1
    · exact ih (fun j hj => h j (by omega)) p h1
    · split at h1
      · cases h1
      · rw [List.mem_singleton] at h1
        subst h1
        have := h k (by omega)
        show (t.D k).id.size ≤ 9223372036854775807
        omega
def Strct (o t : Ks) (ver : List Int) (blk : List T.Rc) (s : Bool) (j : Nat) : Prop := s = true ∧ tr o t (t.D j).id ver blk = 1
def SndP (o t : Ks) (ver : List Int) (blk : List T.Rc) (s : Bool) (w : World) (e : Ending) (w' : World) : Prop :=
  (((∃ j, j < t.n ∧ Strct o t ver blk s j) ∧ e = .returned (.tuple #[.slice none 0 0, .int .i64 28])) ∨
   ((∀ j, j < t.n → ¬ Strct o t ver blk s j) ∧ ∃ A c, e = .returned (.tuple #[.slice A (sndL o t ver blk t.n).length c, .int .i64 0]) ∧ T.Rcs w' A (sndL o t ver blk t.n).length c (sndL o t ver blk t.n))) ∧ Below w.heap.size w w'
set_option maxHeartbeats 16000000 in
theorem send22 (o t : Ks) (vA bA : Option Addr) (vn vc bn bc : Nat) (ver : List Int) (blk : List T.Rc) (s : Bool) (w : World) (hT : An w) (ht : IsK w t) (hv : Q.Ints w vA vn vc ver) (hb : T.Rcs w bA bn bc blk) (hs : ∀ j, j < t.n → t.us.size + 1 + (t.D j).id.size ≤ 1000000) (hn : t.n ≤ 10000) :
    Calls Tryd.prog 22 #[.agg (cellsK o).toArray, .agg (cellsK t).toArray, .slice vA vn vc, .slice bA bn bc, .bool s] w (SndP o t ver blk s w) := by
  obtain ⟨us, ms, ps, tA, tn, tc, D⟩ := t
  have B0 := Lib.hid (box2_below w o ⟨us, ms, ps, tA, tn, tc, D⟩)
  have Y0 := Lib.hid (box2_0 w o ⟨us, ms, ps, tA, tn, tc, D⟩)
  have Y1 := Lib.hid (box2_1 w o ⟨us, ms, ps, tA, tn, tc, D⟩)
  have y13 := ((box2_1 w o ⟨us, ms, ps, tA, tn, tc, D⟩).alloc (.cells #[] 9)).cell (i := 3) rfl
  have OF := Lib.hid (fun dev (h1 : us.size + 1 + dev.size ≤ 1000000) u (hu : Below (box2 w o ⟨us, ms, ps, tA, tn, tc, D⟩).heap.size (box2 w o ⟨us, ms, ps, tA, tn, tc, D⟩) u) => of23 o ⟨us, ms, ps, tA, tn, tc, D⟩ dev vA bA vn vc bn bc ver blk u ((hT.below B0.out).below hu) ((ht.below B0.out).below hu) ((hv.below B0.out).below hu) ((hb.below B0.out).below hu) h1)
  have HD := Lib.hid (fun u (hu : Below (box2 w o ⟨us, ms, ps, tA, tn, tc, D⟩).heap.size (box2 w o ⟨us, ms, ps, tA, tn, tc, D⟩) u) => show Dvs u tA tn tc D from (ht.below B0.out).below hu)
  have HS := Lib.hid hs
  obtain ⟨i0, hi, hz0, hz1, hz2⟩ := info_parts info9s
  have HI := Lib.hid (And.intro hi (And.intro hz0 (And.intro hz1 hz2)))
  have O0 : Hid (((box2 w o ⟨us, ms, ps, tA, tn, tc, D⟩).alloc (.cells #[] 9)).ownsRow (box2 w o ⟨us, ms, ps, tA, tn, tc, D⟩).heap.size 9 1 (.slice (some ⟨w.heap.size + 1 + 1, 0, none⟩) 0 0) 0 (T.cl [])) := Lib.hid (by
    have := World.ownsRow_made (base := (box2 w o ⟨us, ms, ps, tA, tn, tc, D⟩).heap.size) (e := 9) (size := 1) (box2 w o ⟨us, ms, ps, tA, tn, tc, D⟩) #[] 0 (Nat.le_refl _) (by decide) (by simp)
    rw [show (box2 w o ⟨us, ms, ps, tA, tn, tc, D⟩).heap.size = w.heap.size + 1 + 1 by simp] at this ⊢
    exact this)
  have BB := Lib.hid ((Below.refl (box2 w o ⟨us, ms, ps, tA, tn, tc, D⟩).heap.size (box2 w o ⟨us, ms, ps, tA, tn, tc, D⟩)).alloc (Nat.le_refl _) (.cells #[] 9))
  clear hT ht hv hb hs hi hz0 hz1 hz2
  show Calls Tryd.prog 22 #[.agg #[.string o.us, .int .i64 o.ms, .int .i64 o.ps, .slice o.A o.n o.c], .agg #[.string us, .int .i64 ms, .int .i64 ps, .slice tA tn tc], .slice vA vn vc, .slice bA bn bc, .bool s] w _
  go_enter Tryd.func22, Tryd.ntmps22
  go_wp2
  clear y13
  go_loopg [12, 14, 19, 30, 32] tn (fun gg s12 _ s19 _ _ wr => ∃ (kk nz : Nat) (zs : List T.Rc) (A1 : Option Addr) (c1 : Nat), kk ≤ tn ∧ tn - kk ≤ gg ∧ s19 = .int .i64 kk ∧ s12 = .slice A1 nz c1 ∧ nz ≤ kk ∧ Hid (zs.length = nz) ∧ Hid (zs = sndL o ⟨us, ms, ps, tA, tn, tc, D⟩ ver blk kk) ∧ Hid (∀ j, j < kk → ¬ Strct o ⟨us, ms, ps, tA, tn, tc, D⟩ ver blk s j) ∧ Hid (wr.ownsRow (box2 w o ⟨us, ms, ps, tA, tn, tc, D⟩).heap.size 9 1 (.slice A1 nz c1) nz (T.cl zs)) ∧ Hid (Below (box2 w o ⟨us, ms, ps, tA, tn, tc, D⟩).heap.size (box2 w o ⟨us, ms, ps, tA, tn, tc, D⟩) wr))
  case atStart => exact ⟨0, 0, [], _, 0, Nat.zero_le _, by omega, rfl, rfl, Nat.le_refl _, Lib.hid rfl, Lib.hid rfl, Lib.hid (fun j hj => absurd hj (Nat.not_lt_zero _)), O0, BB⟩
  case round =>
    obtain ⟨kk, nz, zs, A1, c1, hkk, hg, rfl, rfl, hnz, HZl, HZs, HN, HO, BW⟩ := hrel
    by_cases hlt : kk < tn
    · have hltz : (kk : Int) < (tn : Int) := by omega
      obtain ⟨b, off, rfl, _, R, _, _⟩ := (HD.out _ BW.out).get hlt
      have CQ := Lib.hid (OF.out (D kk).id (HS.out kk hlt))
      have HSn : Hid (sndL o ⟨us, ms, ps, (some ⟨b, off, none⟩), tn, tc, D⟩ ver blk (kk + 1) = sndL o ⟨us, ms, ps, (some ⟨b, off, none⟩), tn, tc, D⟩ ver blk kk ++ (if tr o ⟨us, ms, ps, (some ⟨b, off, none⟩), tn, tc, D⟩ (D kk).id ver blk = 0 then [] else [⟨(D kk).id⟩])) := Lib.hid rfl
      have HSt : Hid (∀ v, tr o ⟨us, ms, ps, (some ⟨b, off, none⟩), tn, tc, D⟩ (D kk).id ver blk = v → ¬ (s = true ∧ v = 1) → ∀ j, j < kk + 1 → ¬ Strct o ⟨us, ms, ps, (some ⟨b, off, none⟩), tn, tc, D⟩ ver blk s j) := Lib.hid (fun v hv hn j hj => by
        by_cases e : j = kk
        · subst e; rintro ⟨h1, h2⟩; exact hn ⟨h1, by rw [← hv]; exact h2⟩
        · exact HN.out j (by omega))
      have HSb : Hid (tr o ⟨us, ms, ps, (some ⟨b, off, none⟩), tn, tc, D⟩ (D kk).id ver blk = 1 → s = true → Strct o ⟨us, ms, ps, (some ⟨b, off, none⟩), tn, tc, D⟩ ver blk s kk) := Lib.hid (fun h1 h2 => ⟨h2, h1⟩)
      have HC := tr_cases o ⟨us, ms, ps, (some ⟨b, off, none⟩), tn, tc, D⟩ (D kk).id ver blk
      generalize tr o ⟨us, ms, ps, (some ⟨b, off, none⟩), tn, tc, D⟩ (D kk).id ver blk = r at *
      generalize D kk = p at R CQ HSn
      rcases HC with rfl | rfl | rfl | rfl
      · have HN2 := Lib.hid (HSt.out 0 rfl (fun h => by cases h.2))
        have HL2 : Hid (zs = sndL o ⟨us, ms, ps, (some ⟨b, off, none⟩), tn, tc, D⟩ ver blk (kk + 1)) := Lib.hid (by rw [HSn.out, if_pos rfl, List.append_nil]; exact HZs.out)
        clear HSn HSt HSb HN HZs
        go_wp2_with (first
          | (refine load_mid_g (by rfl) 43 _ rfl b (off + kk * 3) rfl (encD p) _ R.out Tryd.underlying43 rfl size43 ?_)
          | (refine wpList_store_mid rfl 43 _ _ rfl wr.heap.size 0 (encD p).toArray rfl rfl (Blk.there (n := 3) (blk_new wr zD 43) (by decide)) size43 (by simp [Value.oneCell']) ?_; generalize hw4 : (wr.alloc (.cells zD.toArray 43)).setCells wr.heap.size 0 (encD p).toArray.toList = w4; have X4 : Hid (Blk w4 wr.heap.size (encD p) 43) := Lib.hid (by rw [← hw4]; exact (blk_new wr zD 43).setAll _ rfl); have Q4 : Hid (Below wr.heap.size wr w4) := Lib.hid (by rw [← hw4]; exact below_setAll (Nat.le_refl _) _ _ _ ((Below.refl _ wr).alloc (Nat.le_refl _) _)); clear hw4; have B4 := Lib.hid (BW.out.trans (Q4.out.mono BW.out.size)); have O4 := Lib.hid (own_below HO.out Q4.out); have Z0 := Lib.hid (Y0.out.below B4.out); have Z1 := Lib.hid (Y1.out.below B4.out); have f0 := X4.out.cell (i := 0) rfl)
          | (refine wpList_load_mid rfl 24 _ rfl w.heap.size 0 rfl (cellsK o) _ Z0.out.range Tryd.underlying24 rfl size24 ?_)
          | (refine wpList_load_mid rfl 24 _ rfl (w.heap.size + 1) 0 rfl (cellsK ⟨us, ms, ps, (some ⟨b, off, none⟩), tn, tc, D⟩) _ Z1.out.range Tryd.underlying24 rfl size24 ?_)
          | (go_at_call 23; (with_reducible refine (CQ.out _ B4.out).mono ?_); rintro e w5 ⟨rfl, hb5⟩; have X5 := Lib.hid (X4.out.below hb5); have B5 := Lib.hid (B4.out.trans (hb5.mono B4.out.size)); have O5 := Lib.hid (own_below O4.out hb5); clear f0; have f0 := X5.out.cell (i := 0) rfl; clear hb5))
        go_roundg (tn - (kk + 1))
        case measure => omega
        case rel => exact ⟨kk + 1, nz, zs, A1, c1, by omega, by omega, by go_num, rfl, by omega, HZl, HL2, HN2, O5, B5⟩
      · cases s
        · have HN2 := Lib.hid (HSt.out 1 rfl (fun h => by cases h.1))
          have HL2 : Hid (zs ++ [⟨p.id⟩] = sndL o ⟨us, ms, ps, (some ⟨b, off, none⟩), tn, tc, D⟩ ver blk (kk + 1)) := Lib.hid (by rw [HSn.out, if_neg (by decide), HZs.out])
          clear HSn HSt HSb HN HZs
          go_wp2_with (first
          | (refine load_mid_g (by rfl) 43 _ rfl b (off + kk * 3) rfl (encD p) _ R.out Tryd.underlying43 rfl size43 ?_)
          | (refine wpList_store_mid rfl 43 _ _ rfl wr.heap.size 0 (encD p).toArray rfl rfl (Blk.there (n := 3) (blk_new wr zD 43) (by decide)) size43 (by simp [Value.oneCell']) ?_; generalize hw4 : (wr.alloc (.cells zD.toArray 43)).setCells wr.heap.size 0 (encD p).toArray.toList = w4; have X4 : Hid (Blk w4 wr.heap.size (encD p) 43) := Lib.hid (by rw [← hw4]; exact (blk_new wr zD 43).setAll _ rfl); have Q4 : Hid (Below wr.heap.size wr w4) := Lib.hid (by rw [← hw4]; exact below_setAll (Nat.le_refl _) _ _ _ ((Below.refl _ wr).alloc (Nat.le_refl _) _)); clear hw4; have B4 := Lib.hid (BW.out.trans (Q4.out.mono BW.out.size)); have O4 := Lib.hid (own_below HO.out Q4.out); have Z0 := Lib.hid (Y0.out.below B4.out); have Z1 := Lib.hid (Y1.out.below B4.out); have f0 := X4.out.cell (i := 0) rfl)
          | (refine wpList_load_mid rfl 24 _ rfl w.heap.size 0 rfl (cellsK o) _ Z0.out.range Tryd.underlying24 rfl size24 ?_)
          | (refine wpList_load_mid rfl 24 _ rfl (w.heap.size + 1) 0 rfl (cellsK ⟨us, ms, ps, (some ⟨b, off, none⟩), tn, tc, D⟩) _ Z1.out.range Tryd.underlying24 rfl size24 ?_)
          | (go_at_call 23; (with_reducible refine (CQ.out _ B4.out).mono ?_); rintro e w5 ⟨rfl, hb5⟩; have X5 := Lib.hid (X4.out.below hb5); have B5 := Lib.hid (B4.out.trans (hb5.mono B4.out.size)); have O5 := Lib.hid (own_below O4.out hb5); clear f0; have f0 := X5.out.cell (i := 0) rfl; clear hb5)
          | (at_builtin; refine wpList_append_any _ rfl _ _ 26 rfl (box2 w o ⟨us, ms, ps, (some ⟨b, off, none⟩), tn, tc, D⟩).heap.size 9 i0 _ 1 16 Tryd.underlying26 HI.out.1 HI.out.2.1 HI.out.2.2.1 HI.out.2.2.2 rfl (by decide) (.slice A1 nz c1) nz (T.cl zs) rfl (own_below O5.out ((Below.refl _ w5).alloc (Nat.le_refl _) (.cells #[.string p.id] 9))) (some ⟨w5.heap.size, 0, none⟩) 1 1 (T.cl [⟨p.id⟩]) rfl (src_one w5 p.id) (by unfold maxLen; omega) (by omega) (by have := B5.out.size; simp at this ⊢; omega) ?_; intro v6 w6 hgr; have B6 := Lib.hid (hgr.below (B5.out.alloc B5.out.size (.cells #[.string p.id] 9)) (own_below O5.out ((Below.refl _ w5).alloc (Nat.le_refl _) (.cells #[.string p.id] 9)))); have O6 := Lib.hid hgr.own; clear hgr; rw [← T.cl_append] at O6; obtain ⟨A6, c6, rfl⟩ := own_slice O6.out))
          go_roundg (tn - (kk + 1))
          case measure => omega
          case rel => exact ⟨kk + 1, nz + 1, zs ++ [⟨p.id⟩], A6, c6, by omega, by omega, by go_num, rfl, by omega, Lib.hid (by rw [List.length_append, HZl.out]; rfl), HL2, HN2, O6, B6⟩
        · have HB := Lib.hid (HSb.out rfl rfl)
          clear HSn HSt HSb HN HZs
          go_wp2_with (first
          | (refine load_mid_g (by rfl) 43 _ rfl b (off + kk * 3) rfl (encD p) _ R.out Tryd.underlying43 rfl size43 ?_)
          | (refine wpList_store_mid rfl 43 _ _ rfl wr.heap.size 0 (encD p).toArray rfl rfl (Blk.there (n := 3) (blk_new wr zD 43) (by decide)) size43 (by simp [Value.oneCell']) ?_; generalize hw4 : (wr.alloc (.cells zD.toArray 43)).setCells wr.heap.size 0 (encD p).toArray.toList = w4; have X4 : Hid (Blk w4 wr.heap.size (encD p) 43) := Lib.hid (by rw [← hw4]; exact (blk_new wr zD 43).setAll _ rfl); have Q4 : Hid (Below wr.heap.size wr w4) := Lib.hid (by rw [← hw4]; exact below_setAll (Nat.le_refl _) _ _ _ ((Below.refl _ wr).alloc (Nat.le_refl _) _)); clear hw4; have B4 := Lib.hid (BW.out.trans (Q4.out.mono BW.out.size)); have O4 := Lib.hid (own_below HO.out Q4.out); have Z0 := Lib.hid (Y0.out.below B4.out); have Z1 := Lib.hid (Y1.out.below B4.out); have f0 := X4.out.cell (i := 0) rfl)
          | (refine wpList_load_mid rfl 24 _ rfl w.heap.size 0 rfl (cellsK o) _ Z0.out.range Tryd.underlying24 rfl size24 ?_)
          | (refine wpList_load_mid rfl 24 _ rfl (w.heap.size + 1) 0 rfl (cellsK ⟨us, ms, ps, (some ⟨b, off, none⟩), tn, tc, D⟩) _ Z1.out.range Tryd.underlying24 rfl size24 ?_)
          | (go_at_call 23; (with_reducible refine (CQ.out _ B4.out).mono ?_); rintro e w5 ⟨rfl, hb5⟩; have X5 := Lib.hid (X4.out.below hb5); have B5 := Lib.hid (B4.out.trans (hb5.mono B4.out.size)); have O5 := Lib.hid (own_below O4.out hb5); clear f0; have f0 := X5.out.cell (i := 0) rfl; clear hb5))
          go_ret2
          exact ⟨.inl ⟨⟨kk, hlt, HB.out⟩, rfl⟩, B0.out.trans (B5.out.mono B0.out.size)⟩
      · have HN2 := Lib.hid (HSt.out 2 rfl (fun h => by cases h.2))
        have HL2 : Hid (zs ++ [⟨p.id⟩] = sndL o ⟨us, ms, ps, (some ⟨b, off, none⟩), tn, tc, D⟩ ver blk (kk + 1)) := Lib.hid (by rw [HSn.out, if_neg (by decide), HZs.out])
        clear HSn HSt HSb HN HZs
        go_wp2_with (first
          | (refine load_mid_g (by rfl) 43 _ rfl b (off + kk * 3) rfl (encD p) _ R.out Tryd.underlying43 rfl size43 ?_)
          | (refine wpList_store_mid rfl 43 _ _ rfl wr.heap.size 0 (encD p).toArray rfl rfl (Blk.there (n := 3) (blk_new wr zD 43) (by decide)) size43 (by simp [Value.oneCell']) ?_; generalize hw4 : (wr.alloc (.cells zD.toArray 43)).setCells wr.heap.size 0 (encD p).toArray.toList = w4; have X4 : Hid (Blk w4 wr.heap.size (encD p) 43) := Lib.hid (by rw [← hw4]; exact (blk_new wr zD 43).setAll _ rfl); have Q4 : Hid (Below wr.heap.size wr w4) := Lib.hid (by rw [← hw4]; exact below_setAll (Nat.le_refl _) _ _ _ ((Below.refl _ wr).alloc (Nat.le_refl _) _)); clear hw4; have B4 := Lib.hid (BW.out.trans (Q4.out.mono BW.out.size)); have O4 := Lib.hid (own_below HO.out Q4.out); have Z0 := Lib.hid (Y0.out.below B4.out); have Z1 := Lib.hid (Y1.out.below B4.out); have f0 := X4.out.cell (i := 0) rfl)
          | (refine wpList_load_mid rfl 24 _ rfl w.heap.size 0 rfl (cellsK o) _ Z0.out.range Tryd.underlying24 rfl size24 ?_)
          | (refine wpList_load_mid rfl 24 _ rfl (w.heap.size + 1) 0 rfl (cellsK ⟨us, ms, ps, (some ⟨b, off, none⟩), tn, tc, D⟩) _ Z1.out.range Tryd.underlying24 rfl size24 ?_)
          | (go_at_call 23; (with_reducible refine (CQ.out _ B4.out).mono ?_); rintro e w5 ⟨rfl, hb5⟩; have X5 := Lib.hid (X4.out.below hb5); have B5 := Lib.hid (B4.out.trans (hb5.mono B4.out.size)); have O5 := Lib.hid (own_below O4.out hb5); clear f0; have f0 := X5.out.cell (i := 0) rfl; clear hb5)
          | (at_builtin; refine wpList_append_any _ rfl _ _ 26 rfl (box2 w o ⟨us, ms, ps, (some ⟨b, off, none⟩), tn, tc, D⟩).heap.size 9 i0 _ 1 16 Tryd.underlying26 HI.out.1 HI.out.2.1 HI.out.2.2.1 HI.out.2.2.2 rfl (by decide) (.slice A1 nz c1) nz (T.cl zs) rfl (own_below O5.out ((Below.refl _ w5).alloc (Nat.le_refl _) (.cells #[.string p.id] 9))) (some ⟨w5.heap.size, 0, none⟩) 1 1 (T.cl [⟨p.id⟩]) rfl (src_one w5 p.id) (by unfold maxLen; omega) (by omega) (by have := B5.out.size; simp at this ⊢; omega) ?_; intro v6 w6 hgr; have B6 := Lib.hid (hgr.below (B5.out.alloc B5.out.size (.cells #[.string p.id] 9)) (own_below O5.out ((Below.refl _ w5).alloc (Nat.le_refl _) (.cells #[.string p.id] 9)))); have O6 := Lib.hid hgr.own; clear hgr; rw [← T.cl_append] at O6; obtain ⟨A6, c6, rfl⟩ := own_slice O6.out))
        go_roundg (tn - (kk + 1))
        case measure => omega
        case rel => exact ⟨kk + 1, nz + 1, zs ++ [⟨p.id⟩], A6, c6, by omega, by omega, by go_num, rfl, by omega, Lib.hid (by rw [List.length_append, HZl.out]; rfl), HL2, HN2, O6, B6⟩
      · have HN2 := Lib.hid (HSt.out 3 rfl (fun h => by cases h.2))
        have HL2 : Hid (zs ++ [⟨p.id⟩] = sndL o ⟨us, ms, ps, (some ⟨b, off, none⟩), tn, tc, D⟩ ver blk (kk + 1)) := Lib.hid (by rw [HSn.out, if_neg (by decide), HZs.out])
        clear HSn HSt HSb HN HZs
        go_wp2_with (first
          | (refine load_mid_g (by rfl) 43 _ rfl b (off + kk * 3) rfl (encD p) _ R.out Tryd.underlying43 rfl size43 ?_)
          | (refine wpList_store_mid rfl 43 _ _ rfl wr.heap.size 0 (encD p).toArray rfl rfl (Blk.there (n := 3) (blk_new wr zD 43) (by decide)) size43 (by simp [Value.oneCell']) ?_; generalize hw4 : (wr.alloc (.cells zD.toArray 43)).setCells wr.heap.size 0 (encD p).toArray.toList = w4; have X4 : Hid (Blk w4 wr.heap.size (encD p) 43) := Lib.hid (by rw [← hw4]; exact (blk_new wr zD 43).setAll _ rfl); have Q4 : Hid (Below wr.heap.size wr w4) := Lib.hid (by rw [← hw4]; exact below_setAll (Nat.le_refl _) _ _ _ ((Below.refl _ wr).alloc (Nat.le_refl _) _)); clear hw4; have B4 := Lib.hid (BW.out.trans (Q4.out.mono BW.out.size)); have O4 := Lib.hid (own_below HO.out Q4.out); have Z0 := Lib.hid (Y0.out.below B4.out); have Z1 := Lib.hid (Y1.out.below B4.out); have f0 := X4.out.cell (i := 0) rfl)
          | (refine wpList_load_mid rfl 24 _ rfl w.heap.size 0 rfl (cellsK o) _ Z0.out.range Tryd.underlying24 rfl size24 ?_)
          | (refine wpList_load_mid rfl 24 _ rfl (w.heap.size + 1) 0 rfl (cellsK ⟨us, ms, ps, (some ⟨b, off, none⟩), tn, tc, D⟩) _ Z1.out.range Tryd.underlying24 rfl size24 ?_)
          | (go_at_call 23; (with_reducible refine (CQ.out _ B4.out).mono ?_); rintro e w5 ⟨rfl, hb5⟩; have X5 := Lib.hid (X4.out.below hb5); have B5 := Lib.hid (B4.out.trans (hb5.mono B4.out.size)); have O5 := Lib.hid (own_below O4.out hb5); clear f0; have f0 := X5.out.cell (i := 0) rfl; clear hb5)
          | (at_builtin; refine wpList_append_any _ rfl _ _ 26 rfl (box2 w o ⟨us, ms, ps, (some ⟨b, off, none⟩), tn, tc, D⟩).heap.size 9 i0 _ 1 16 Tryd.underlying26 HI.out.1 HI.out.2.1 HI.out.2.2.1 HI.out.2.2.2 rfl (by decide) (.slice A1 nz c1) nz (T.cl zs) rfl (own_below O5.out ((Below.refl _ w5).alloc (Nat.le_refl _) (.cells #[.string p.id] 9))) (some ⟨w5.heap.size, 0, none⟩) 1 1 (T.cl [⟨p.id⟩]) rfl (src_one w5 p.id) (by unfold maxLen; omega) (by omega) (by have := B5.out.size; simp at this ⊢; omega) ?_; intro v6 w6 hgr; have B6 := Lib.hid (hgr.below (B5.out.alloc B5.out.size (.cells #[.string p.id] 9)) (own_below O5.out ((Below.refl _ w5).alloc (Nat.le_refl _) (.cells #[.string p.id] 9)))); have O6 := Lib.hid hgr.own; clear hgr; rw [← T.cl_append] at O6; obtain ⟨A6, c6, rfl⟩ := own_slice O6.out))
        go_roundg (tn - (kk + 1))
        case measure => omega
        case rel => exact ⟨kk + 1, nz + 1, zs ++ [⟨p.id⟩], A6, c6, by omega, by omega, by go_num, rfl, by omega, Lib.hid (by rw [List.length_append, HZl.out]; rfl), HL2, HN2, O6, B6⟩
    · have hltz : ¬ (kk : Int) < (tn : Int) := by omega
      obtain rfl : kk = tn := by omega
      have HF := Lib.hid (fun p (hp : p ∈ sndL o ⟨us, ms, ps, tA, kk, tc, D⟩ ver blk kk) => snd_fit (fun j hj => Nat.le_trans (Nat.le_add_left _ _) (HS.out j hj)) p hp)
      have HR := Lib.hid (T.Rcs.ofOwn HO.out HZl.out (by omega) (fun p hp => HF.out p (by rw [← HZs.out]; exact hp)))
      go_wp2
      go_ret2
      refine ⟨.inr ⟨HN.out, A1, c1, ?_, ?_⟩, B0.out.trans (BW.out.mono B0.out.size)⟩
      · show Ending.returned (.tuple #[.slice A1 nz c1, .int .i64 0]) = .returned (.tuple #[.slice A1 (sndL o ⟨us, ms, ps, tA, kk, tc, D⟩ ver blk kk).length c1, .int .i64 0])
        rw [← HZs.out, HZl.out]
      · show T.Rcs wr A1 (sndL o ⟨us, ms, ps, tA, kk, tc, D⟩ ver blk kk).length c1 (sndL o ⟨us, ms, ps, tA, kk, tc, D⟩ ver blk kk)
        rw [← HZs.out, HZl.out]
        obtain ⟨A', c', e', hr, _⟩ := HR.out
        simp only [Value.slice.injEq, true_and] at e'
        obtain ⟨rfl, rfl⟩ := e'
        exact hr
end Go.Proofs.YtaaaeeljjfblnaaDoor
