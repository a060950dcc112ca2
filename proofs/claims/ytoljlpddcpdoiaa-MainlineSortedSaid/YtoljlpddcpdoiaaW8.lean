/- The mainline: ranks, closest, Closest of the program. Bound: at most 900000 events and numbers. -/
import Derived.Test.YtoljlpddcpdoiaaW7
namespace Go.Proofs.Ytoljlpddcpdoiaa
open Go Go.RowKit Go.Maps Go.Shelf
attribute [local go_sem] Oper.semAt_some
set_option linter.unusedVariables false
set_option linter.unusedSimpArgs false

/-- A list of numbers as events with these ids: its places. -/
def meL (zs : List Int) (j : Nat) : Me := ⟨zs.getD j 0, 0, 0, none, 0, 0, [], []⟩
def rk (zs : List Int) (x : Int) : Option Int := plc (meL zs) zs.length x
set_option maxRecDepth 100000 in
set_option maxHeartbeats 4000000 in
theorem ranks25 (A : Option Addr) (n c : Nat) (zs : List Int) (w : World) (h : Its w A n c zs) (hn : n ≤ 900000) : Calls Try.prog 25 #[.slice A n c] w fun e w' => e = .returned (.map (some w.heap.size)) ∧ (∃ m, m ≤ n ∧ MapI w' w.heap.size m (rk zs)) ∧ Below w.heap.size w w' := by
  have H := Lib.hid h
  have HRk := Lib.hid (show plc (meL zs) n = rk zs by unfold rk; rw [h.len])
  clear h
  go_enter Try.func25, Try.ntmps25
  have hmm := @run_makeMap Try.prog
  go_wp2
  clear hmm
  go_loopg [4, 5, 6, 7, 11] n (fun gg _ _ _ _ s11 wr => ∃ kk m : Nat, kk ≤ n ∧ n - kk ≤ gg ∧ m ≤ kk ∧ s11 = .int .i64 kk ∧ Hid (MapI wr w.heap.size m (plc (meL zs) kk)) ∧ Hid (Below w.heap.size w wr))
  case atStart => exact ⟨0, 0, Nat.zero_le _, by omega, by omega, rfl, Lib.hid (MapI.made w), Lib.hid ((Below.refl _ _).alloc (Nat.le_refl _) _)⟩
  case round =>
    obtain ⟨kk, m, hkk, hg, hmk, rfl, HM, BW⟩ := hrel
    by_cases hlt : kk < n
    · have hltz : (kk : Int) < (n : Int) := by omega
      have hk0 : (0 : Int) ≤ (kk : Int) := by omega
      obtain ⟨b, off, eA, hbl, k0, hfit⟩ := (H.out.below BW.out).at_ hlt
      have HOl := Lib.hid (fun x => plc_old (E := meL zs) (k := kk) (x := x))
      have HNe := Lib.hid (plc_new (E := meL zs) (k := kk))
      subst eA
      rw [show (meL zs kk).id = zs.getD kk 0 from rfl] at HOl HNe
      generalize zs.getD kk 0 = i at k0 HOl HNe hfit
      have hask := HM.out.ask hfit
      cases hk : plc (meL zs) kk i with
      | none =>
        have HNw := Lib.hid (HNe.out hk)
        rw [hk] at hask
        clear hk
        go_wp2_with (first
          | (at_mapUpdate; refine wpList_putI rfl _ _ _ rfl w.heap.size m (plc (meL zs) kk) rfl HM.out (by omega) i hfit rfl (kk : Int) (by unfold i64B; omega) rfl ?_; intro w3 hm3 hg3; have M3 := Lib.hid hm3; have B3 := Lib.hid (below_put BW.out hg3 (Nat.le_refl _)); clear hm3 hg3 hask)
          | go_in)
        go_roundg (n - (kk + 1))
        case measure => omega
        case rel => exact ⟨kk + 1, m + 1, by omega, by omega, by omega, by go_num, Lib.hid (by rw [HNw.out]; exact M3.out), B3⟩
      | some x =>
        have HOd := Lib.hid (HOl.out x hk)
        rw [hk] at hask
        clear hk
        go_wp2
        go_roundg (n - (kk + 1))
        case measure => omega
        case rel => exact ⟨kk + 1, m, by omega, by omega, by omega, by go_num, Lib.hid (by rw [HOd.out]; exact HM.out), BW⟩
    · have hltz : ¬ (kk : Int) < (n : Int) := by omega
      obtain rfl : kk = n := by omega
      go_wp2
      go_ret
      exact ⟨rfl, ⟨m, hmk, by have := HM.out; rwa [HRk.out] at this⟩, BW.out⟩
/-- The rank of the first id on the way that has one. -/
def clo (way : List Int) (f : Int → Option Int) (none_ : Int) : Int := match way.find? (fun x => (f x).isSome) with
  | some x => (f x).getD 0
  | none => none_
theorem ret_i64 {a b : Int} (h : a = b) : Ending.returned (.int .i64 a) = .returned (.int .i64 b) := by rw [h]
theorem clo_no {way : List Int} {f : Int → Option Int} {nn : Int} (h : ∀ x ∈ way, f x = none) : clo way f nn = nn := by
  unfold clo
  rw [List.find?_eq_none.2 (fun x hx => by rw [h x hx]; simp)]
theorem clo_yes {way p : List Int} {f : Int → Option Int} {nn x y : Int} (hp : p ++ [x] <+: way) (h1 : ∀ z ∈ p, f z = none) (h2 : f x = some y) : clo way f nn = y := by
  obtain ⟨r, rfl⟩ := hp
  unfold clo
  rw [List.append_assoc, List.find?_append, List.find?_eq_none.2 (fun z hz => by rw [h1 z hz]; simp), Option.none_or, List.singleton_append, List.find?_cons, h2]
  simp [h2]
theorem load_int {w : World} {g : Nat} {v : Int} (h : Blk w g [.int .i64 v] 3) : (loadVar 3 ⟨g, 0, none⟩).run Try.prog w = .ok (.int .i64 v) w := by
  have c0 := h.cell (i := 0) rfl
  go_simp
structure CloI (w : World) (f : Int → Option Int) (Mr mr : Nat) (pre : List Int) (X : World) : Prop where
  bel : Below w.heap.size w X
  b7 : Blk X w.heap.size [.map (some Mr)] 53
  b10 : Blk X (w.heap.size + 1) [.int .i64 0] 3
  no : ∀ x ∈ pre, f x = none
structure CloX (w : World) (f : Int → Option Int) (pre : List Int) (X : World) : Prop where
  bel : Below w.heap.size w X
  ex : ∃ p x y, pre = p ++ [x] ∧ (∀ z ∈ p, f z = none) ∧ f x = some y ∧ Blk X (w.heap.size + 1) [.int .i64 y] 3
theorem results_cell1 {P : Program} {fn : Func} {p : Tmp} {ty : TypeId} (h : fn.results = #[.cell p ty]) (tmps : Array Value) (w : World) (v : Value) (a : Addr) (hp : tmps.getD p undef = .pointer (some a)) (hl : (loadVar ty a).run P w = .ok v w) : (results fn tmps).run P w = .ok v w := by
  have hp' : tmps[p]?.getD undef = .pointer (some a) := by simpa using hp
  simp only [results, h]
  simp [Sem.run_bind, Result.andThen, hp', asAddr, hl]
set_option maxRecDepth 100000 in
set_option maxHeartbeats 8000000 in
theorem closest24 (A : Option Addr) (n c : Nat) (E : Nat → Me) (Mp m Mr mr : Nat) (f : Int → Option Int) (nn id : Int) (w : World) (h : Evm w A n E) (hn : n ≤ 900000) (hw : i64B id) (hmp : MapI w Mp m (plc E n)) (hmr : MapI w Mr mr f) : Calls Try.prog 24 #[.slice A n c, .map (some Mp), .map (some Mr), .int .i64 nn, .int .i64 id] w fun e w' => e = .returned (.int .i64 (clo (wayL E n id) f nn)) ∧ Below w.heap.size w w' := by
  have H := Lib.hid h
  have HMp := Lib.hid hmp
  have HMr := Lib.hid hmr
  have HWf := Lib.hid (way_wf h hw)
  have HW := Lib.hid (fun v => way21 A n c Mp id v)
  clear h hmp hmr
  rw [← callsIn_wide (n := 3)]
  refine callsIn_of_wp_marks Try.func24 rfl trivial ?_ rfl
  refine (wpIn_wide (n := 3)).2 ?_
  simp only [Try.ntmps24, List.size_toArray, List.length_cons, List.length_nil, Nat.reduceAdd, Nat.reduceSub, Array.replicate_succ, Array.replicate_zero, List.push_toArray, List.append_toArray, List.nil_append, List.cons_append]
  have B0 := Lib.hid (((Below.refl w.heap.size w).alloc (Nat.le_refl _) (.cells #[.map (some Mr)] 53)).alloc (by simp) (.cells #[.int .i64 0] 3))
  have K7 := Lib.hid ((blk_new w [.map (some Mr)] 53).alloc (.cells #[.int .i64 0] 3))
  have K10 := Lib.hid (show Blk ((w.alloc (.cells #[.map (some Mr)] 53)).alloc (.cells #[.int .i64 0] 3)) (w.heap.size + 1) [.int .i64 0] 3 by
    have := blk_new (w.alloc (.cells #[.map (some Mr)] 53)) [.int .i64 0] 3
    rwa [World.size_alloc] at this)
  go_wp2_with (go_at_call 21; (with_reducible refine (HW.out _).mono ?_); rintro e w2 ⟨rfl, rfl⟩)
  have HSz := Lib.hid (show ((w.alloc (.cells #[.map (some Mr)] 53)).alloc (.cells #[.int .i64 0] 3)).heap.size = w.heap.size + 1 + 1 by simp)
  generalize (w.alloc (.cells #[.map (some Mr)] 53)).alloc (.cells #[.int .i64 0] 3) = u at B0 K7 K10 HSz ⊢
  have LX := boxes_lie (c := c) (H.out.below B0.out) (HMp.out.below B0.out) hw
  have BX := boxes_below u A n c Mp id
  have SZ := boxes_size u A n c Mp id
  rw [HSz.out] at LX SZ
  have B2 : Below w.heap.size w (boxes u A n c Mp id) := B0.out.trans (BX.mono B0.out.size)
  have K72 := K7.out.below BX
  have K102 := K10.out.below BX
  have HMl := Lib.hid HMr.out.lt
  generalize boxes u A n c Mp id = w2 at BX LX SZ B2 K72 K102 ⊢
  clear K7 K10 B0 HW BX HSz
  refine (wpIn_wide (n := 3)).1 (range_turns (T := Tw (w.heap.size + 1 + 1 + 2) (w2.heap.size + 2)) (Kp := Kq w.heap.size (SKeep Mp (w.heap.size + 1 + 1 + 1) (w.heap.size + 1 + 1 + 2) (w.heap.size + 1 + 1) (w2.heap.size + 2))) (Z := fun l X => w2.heap.size + 2 < X.heap.size ∧ l.length ≤ n ∧ l <+: wayL E n id) (S := fun xs => xs = wayL E n id) (Sp := fun pre => pre <+: wayL E n id)
    (encs := fun x : Int => #[.int .i64 x]) rfl (by omega) (gf := 35) rfl trivial (enters_of Try.func35 (by kernel_rfl) rfl) (fun _ => rfl)
    (fun r => ?seq) (fun X Y t hl => ⟨t.block _ (by omega) (by omega) (by omega), t.block _ (by omega) (by omega) (by omega)⟩) (fun _ _ _ h k => h.trans k) (fun X o => ?kr) (fun s X o hz => ⟨by rw [World.putObj_size]; exact hz.1, hz.2⟩)
    (CloI w f Mr mr) (fun j pre X => j = .ret ∧ CloX w f pre X)
    (fun s X Y h t => ⟨t.keep h.bel (Nat.le_refl _) (by omega) (by omega), ⟨(t.block _ h.b7.lt (by omega) (by omega)).trans h.b7.heap⟩, ⟨(t.block _ h.b10.lt (by omega) (by omega)).trans h.b10.heap⟩, h.no⟩)
    (fun j s X Y h t => ⟨h.1, t.keep h.2.bel (Nat.le_refl _) (by omega) (by omega), by obtain ⟨p, x, y, e1, e2, e3, e4⟩ := h.2.ex; exact ⟨p, x, y, e1, e2, e3, ⟨(t.block _ e4.lt (by omega) (by omega)).trans e4.heap⟩⟩⟩)
    (fun s X o h => ⟨putObj_below h.bel (by omega), ⟨(World.putObj_heap_other (by omega)).trans h.b7.heap⟩, ⟨(World.putObj_heap_other (by omega)).trans h.b10.heap⟩, h.no⟩)
    (fun j s X o h => ⟨h.1, putObj_below h.2.bel (by omega), by obtain ⟨p, x, y, e1, e2, e3, e4⟩ := h.2.ex; exact ⟨p, x, y, e1, e2, e3, ⟨(World.putObj_heap_other (by omega)).trans e4.heap⟩⟩⟩)
    (fun r => ?start) (fun x => { tmps := #[.slice A n c, .map (some Mp), .map (some Mr), .int .i64 nn, .int .i64 id, undef, undef, .pointer (some ⟨w.heap.size, 0, none⟩), undef, undef, .pointer (some ⟨w.heap.size + 1, 0, none⟩), .int .i64 x, undef, undef, .slice A n c, .map (some Mp), .int .i64 id, .func (.func 35) #[] #[.pointer (some ⟨w.heap.size + 1 + 1 + 1, 0, none⟩), .pointer (some ⟨w.heap.size + 1 + 1 + 2, 0, none⟩), .pointer (some ⟨w.heap.size + 1 + 1, 0, none⟩)], .int .i64 x, undef, undef, undef, undef, undef, undef, undef, undef, undef], defers := [] }) ?assign ?body ?done ?stop)
  case seq =>
    have hbb : Below w2.heap.size w2 (begun w2 r) := ((Below.refl _ w2).alloc (Nat.le_refl _) _).alloc (by simp) _
    have := way35 2 w.heap.size A n c E Mp m (w.heap.size + 1 + 1 + 1) (w.heap.size + 1 + 1 + 2) (w.heap.size + 1 + 1) id w (begun w2 r) H.out rfl (B2.trans (hbb.mono B2.size)) hn (by omega) ⟨LX.ev.below hbb, LX.mp.below hbb, LX.b1.below hbb, LX.b2.below hbb, LX.b3.below hbb, LX.n12, LX.n32, LX.nm2, LX.wf⟩
    rwa [begun_size] at this
  case kr =>
    have hpl := HMp.out.lt
    exact ⟨putObj_below (Below.refl _ X) (by omega), fun k hk hl => World.putObj_heap_other (by unfold SKeep at hk; omega)⟩
  case start =>
    have hbb : Below w2.heap.size w2 (begun w2 r) := ((Below.refl _ w2).alloc (Nat.le_refl _) _).alloc (by simp) _
    exact ⟨B2.trans (hbb.mono B2.size), K72.below hbb, K102.below hbb, fun x hx => by simp at hx⟩
  case assign =>
    intro l x X K hK
    gi_wp2
    exact hK
  case body =>
    rintro l pre x X hI hsz ⟨hz, hpl, hpre⟩
    have hfx : i64B x := HWf.out x (hpre.subset (by simp))
    have HI := Lib.hid hI
    have c0 := hI.b7.cell (i := 0) rfl
    have hask := (HMr.out.below hI.bel).ask hfx
    have d0 := hI.b10.cell (i := 0) rfl
    have d1 := hI.b10.free 0
    have HPm := Lib.hid HMp.out.lt
    clear hI hpre
    cases hfe : f x with
    | none =>
      rw [hfe] at hask
      have HFe := Lib.hid hfe
      clear hfe
      gi_wp2
      exact ⟨⟨rfl, rfl⟩, ⟨Below.refl _ _, fun k hk hl => rfl⟩, HI.out.bel, HI.out.b7, HI.out.b10, fun z hz => by
        rcases List.mem_append.1 hz with hz | hz
        · exact HI.out.no z hz
        · rw [List.mem_singleton.1 hz]; exact HFe.out⟩
    | some y =>
      rw [hfe] at hask
      have HFe := Lib.hid hfe
      clear hfe
      gi_wp2
      exact ⟨⟨Below.heap_setCell X ⟨w.heap.size + 1, 0, none⟩ _ _ (by show _ ≠ w.heap.size + 1; omega), Below.heap_setCell X ⟨w.heap.size + 1, 0, none⟩ _ _ (by show _ ≠ w.heap.size + 1; omega)⟩, rfl, HI.out.bel.setCell (p := ⟨w.heap.size + 1, 0, none⟩) (by simp) _, pre, x, y, rfl, HI.out.no, HFe.out, blk_set1 HI.out.b10⟩
  case done =>
    rintro xs X rfl hI hD
    have HI := Lib.hid hI
    have d0 := hI.b10.cell (i := 0) rfl
    have d1 := hI.b10.free 0
    have HCl := Lib.hid (clo_no (nn := nn) hI.no)
    have hD2 := Lib.hid (show (X.setCell ⟨w.heap.size + 1, 0, none⟩ (.int .i64 nn)).heap[w2.heap.size]? = some (.deferred (some [])) from (Below.heap_setCell X ⟨w.heap.size + 1, 0, none⟩ _ _ (by show _ ≠ w.heap.size + 1; omega)).trans hD)
    clear hI hD
    go_wp2
    refine ⟨by simp, .inl ⟨_, _, rfl, run_takeDeferred hD2.out, ?_⟩⟩
    have hb := blk_set1 HI.out.b10 (v := .int .i64 nn)
    have hb2 : Blk ((X.setCell ⟨w.heap.size + 1, 0, none⟩ (.int .i64 nn)).putObj w2.heap.size (.deferred none)) (w.heap.size + 1) [.int .i64 nn] 3 := ⟨(World.putObj_heap_other (by omega)).trans hb.heap⟩
    refine ⟨_, results_cell1 rfl _ _ (.int .i64 nn) ⟨w.heap.size + 1, 0, none⟩ rfl (load_int hb2), ?_⟩
    exact ⟨ret_i64 HCl.out.symm, putObj_below (HI.out.bel.setCell (p := ⟨w.heap.size + 1, 0, none⟩) (by simp) _) (by omega)⟩
  case stop =>
    rintro j pre X hp ⟨rfl, hX⟩ hD
    have HX := Lib.hid hX
    obtain ⟨p, x, y, rfl, e2, e3, e4⟩ := hX.ex
    have HCl := Lib.hid (clo_yes (nn := nn) hp e2 e3)
    have HB := Lib.hid e4
    clear hX e2 e3 e4 hp
    refine (wpIn_wide (n := 3)).2 ?_
    go_wp2
    refine ⟨by simp, .inl ⟨_, _, rfl, run_takeDeferred hD, ?_⟩⟩
    have hb2 : Blk (X.putObj w2.heap.size (.deferred none)) (w.heap.size + 1) [.int .i64 y] 3 := ⟨(World.putObj_heap_other (by omega)).trans HB.out.heap⟩
    refine ⟨_, results_cell1 rfl _ _ (.int .i64 y) ⟨w.heap.size + 1, 0, none⟩ rfl (load_int hb2), ?_⟩
    exact ⟨ret_i64 HCl.out.symm, putObj_below HX.out.bel (by omega)⟩
end Go.Proofs.Ytoljlpddcpdoiaa
