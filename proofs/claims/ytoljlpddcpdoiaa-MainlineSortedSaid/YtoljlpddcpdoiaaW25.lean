/- The mainline: the walk of the statement Chain. Conditions: the statement's own. -/
import Derived.Test.YtoljlpddcpdoiaaW23
namespace Go.Proofs.Ytoljlpddcpdoiaa
open Go Go.RowKit Go.Maps
set_option linter.unusedVariables false
set_option linter.unusedSimpArgs false

theorem wayF_props (E : Nat → Me) (n : Nat) : ∀ (f : Nat) (seen : List Int) (cur : Option Int), (∀ x ∈ wayF E n f seen cur, known E n x = true ∧ x ∉ seen) ∧ (wayF E n f seen cur).Nodup ∧ (∀ i, i + 1 < (wayF E n f seen cur).length → nxt E n ((wayF E n f seen cur).getD i 0) = some ((wayF E n f seen cur).getD (i + 1) 0)) ∧ (wayF E n f seen cur ≠ [] → cur = some ((wayF E n f seen cur).getD 0 0))
  | 0, seen, cur => by simp [wayF]
  | f + 1, seen, none => by simp [wayF]
  | f + 1, seen, some id => by
    rw [wayF]
    split
    · rename_i h
      obtain ⟨h1, h2, h3, h4⟩ := wayF_props E n f (seen ++ [id]) (nxt E n id)
      generalize wayF E n f (seen ++ [id]) (nxt E n id) = r at h1 h2 h3 h4
      refine ⟨fun x hx => ?_, ?_, fun i hi => ?_, fun _ => rfl⟩
      · rcases List.mem_cons.1 hx with rfl | hx
        · exact h
        · obtain ⟨a, b⟩ := h1 x hx
          exact ⟨a, fun hs => b (List.mem_append_left _ hs)⟩
      · rw [List.nodup_cons]
        exact ⟨fun hm => (h1 id hm).2 (by simp), h2⟩
      · cases i with
        | zero =>
          have hr : r ≠ [] := by rintro rfl; simp at hi
          exact h4 hr
        | succ i =>
          exact h3 i (by simpa using hi)
    · exact ⟨fun x hx => by simp at hx, List.nodup_nil, fun i hi => by simp at hi, fun h => absurd rfl h⟩
/-- What each id of a way is. -/
structure WayS (E : Nat → Me) (n : Nat) (id : Int) (ws : List Int) : Prop where
  kn : ∀ i, i < ws.length → ∃ j : Nat, j < n ∧ plc E n (ws.getD i 0) = some (j : Int)
  cl : ∀ i, i < ws.length → clo (wayL E n (ws.getD i 0)) (rk ws) ws.length = i
  nin : ∀ i, i < ws.length → decide (ws.getD i 0 ∈ ws.take i) = false
  nx : ∀ i, i + 1 < ws.length → ∀ j : Nat, plc E n (ws.getD i 0) = some (j : Int) → ws.getD (i + 1) 0 ∈ (E j).zs
  pw : ∀ i, i + 1 < ws.length → ∀ k : Nat, plc E n (ws.getD (i + 1) 0) = some (k : Int) → (E k).kd = 3
  hd : known E n id = true → 0 < ws.length ∧ ws.getD 0 0 = id
  no : known E n id = false → ws = []
theorem getD_memI {l : List Int} {k : Nat} (h : k < l.length) : l.getD k 0 ∈ l := by
  rw [List.getD_eq_getElem?_getD, List.getElem?_eq_getElem h]; simp
theorem way_cons {E : Nat → Me} {n : Nat} {id : Int} (h : known E n id = true) : ∃ r, wayL E n id = id :: r := by
  unfold wayL
  rw [wayF, if_pos ⟨h, by simp⟩]
  exact ⟨_, rfl⟩
theorem way_s (E : Nat → Me) (n : Nat) (id : Int) : WayS E n id (wayL E n id) := by
  obtain ⟨h1, h2, h3, h4⟩ := wayF_props E n (n + 1) [] (some id)
  have hk : ∀ i, i < (wayL E n id).length → known E n ((wayL E n id).getD i 0) = true := fun i hi => (h1 _ (getD_memI hi)).1
  have hnx : ∀ i, i + 1 < (wayL E n id).length → nxt E n ((wayL E n id).getD i 0) = some ((wayL E n id).getD (i + 1) 0) := h3
  have hnd : (wayL E n id).Nodup := h2
  have hne : ∀ i j, i < j → j < (wayL E n id).length → (wayL E n id).getD i 0 ≠ (wayL E n id).getD j 0 := by
    intro i j hij hj
    have := List.pairwise_iff_getElem.1 (List.nodup_iff_pairwise_ne.1 hnd) i j (by omega) hj hij
    rw [List.getD_eq_getElem?_getD, List.getD_eq_getElem?_getD, List.getElem?_eq_getElem (by omega), List.getElem?_eq_getElem hj]
    exact this
  have hpl : ∀ i, i < (wayL E n id).length → ∃ j : Nat, j < n ∧ plc E n ((wayL E n id).getD i 0) = some (j : Int) := by
    intro i hi
    have := hk i hi
    unfold known at this
    obtain ⟨x, hx⟩ := Option.isSome_iff_exists.1 this
    obtain ⟨j, rfl, hj, _⟩ := plc_lt hx
    exact ⟨j, hj, hx⟩
  refine ⟨hpl, fun i hi => ?_, fun i hi => ?_, fun i hi j hj => ?_, fun i hi k hj => ?_, fun h => ?_, fun h => ?_⟩
  · obtain ⟨r, hr⟩ := way_cons (hk i hi)
    refine clo_yes (p := []) (x := (wayL E n id).getD i 0) ?_ (fun z hz => by simp at hz) ?_
    · rw [hr]; exact ⟨r, rfl⟩
    · unfold rk
      exact plc_first (E := meL (wayL E n id)) hi rfl (fun j hj => hne j i hj hi)
  · refine decide_eq_false fun hm => ?_
    obtain ⟨j, hj, e⟩ := List.getElem_of_mem hm
    rw [List.length_take] at hj
    rw [List.getElem_take] at e
    refine hne j i (by omega) hi ?_
    rw [← e, List.getD_eq_getElem?_getD, List.getElem?_eq_getElem (by omega)]
    rfl
  · have := hnx i hi
    unfold nxt at this
    rw [hj] at this
    exact List.mem_of_find?_eq_some this
  · have := hnx i hi
    obtain ⟨j, _, hj2⟩ := hpl i (by omega)
    unfold nxt at this
    rw [hj2] at this
    have hp := List.find?_some this
    unfold powq at hp
    rw [hj] at hp
    simpa using hp
  · obtain ⟨r, hr⟩ := way_cons h
    rw [hr]
    exact ⟨by simp, rfl⟩
  · unfold wayL
    rw [wayF, if_neg (by rw [h]; simp)]
theorem Its.takeN {w : World} {A : Option Addr} {n c k : Nat} {zs : List Int} (h : Its w A n c zs) (hk : k ≤ n) : Its w A k c (zs.take k) := by
  have hbig := h.rws.big
  have hcap := h.cap
  refine ⟨⟨fun j _ => rfl, fun j _ => by simp [rowI, Value.oneCell'], by omega, fun e => ?_, ?_⟩, by rw [List.length_take, h.len]; omega, by omega, fun z hz => h.wf z (List.mem_of_mem_take hz)⟩
  · obtain ⟨h1, h2⟩ := h.rws.nil e
    exact ⟨by omega, h2⟩
  · rcases h.rws.at_ with h0 | ⟨b, off, e, hlt, hc⟩
    · exact .inl (by omega)
    · refine .inr ⟨b, off, e, hlt, fun j hj i v hv => hc j (by omega) i v ?_⟩
      unfold rowI at hv ⊢
      rw [List.getD_eq_getElem?_getD, List.getElem?_take, if_pos hj, ← List.getD_eq_getElem?_getD] at hv
      exact hv
set_option maxRecDepth 100000 in
set_option maxHeartbeats 16000000 in
theorem chain_walk (A : Option Addr) (n c : Nat) (E : Nat → Me) (id : Int) (w : World) (h : Evm w A n E) (hw : i64B id) : Calls Try.prog 6 #[.slice A n c, .int .i64 id] w fun e w' => e = .returned (.bool true) ∧ Below w.heap.size w w' := by
  have HF := Lib.hid (few8 A n c E w h)
  have H := Lib.hid h
  have HO := Lib.hid (fun (hn : n ≤ 900000) v (hb : Below w.heap.size w v) => of11 A n c E id v (h.below hb) hn hw)
  have HG0 := Lib.hid (fun (hn : n ≤ 900000) x v (hb : Below w.heap.size w v) => get17 A n c E x v (h.below hb) hn)
  have HC0 := Lib.hid (fun (hn : n ≤ 900000) A2 n2 c2 ms z (hz : i64B z) (hn2 : n2 ≤ 900000) v (hb : Below w.heap.size w v) (h2 : Its v A2 n2 c2 ms) => closest13 A n c E A2 n2 c2 ms z v (h.below hb) hn h2 hn2 hz)
  have HL := Lib.hid (way_len E n id)
  have HS := Lib.hid (way_s E n id)
  unfold IntsP at HO
  unfold FewP at HF
  unfold GetP at HG0
  generalize wayL E n id = ws at HO HL HS
  clear h
  go_enter Try.func6, Try.ntmps6
  go_wp2_with (first
    | (go_at_call 8; (with_reducible refine HF.out.mono ?_); rintro e w1 ⟨⟨r, rfl, hr⟩, hb⟩; have B1 := Lib.hid hb; have HR1 := Lib.hid (show FewI r n E from hr); clear hb hr; cases r)
    | (go_at_call 11; (with_reducible refine (HO.out (by have := HR1.out.le; omega) _ B1.out).mono ?_); rintro e w2 ⟨A2, c2, rfl, hi, hb, _⟩; have I2 := Lib.hid hi; have B2 := Lib.hid (B1.out.trans (hb.mono B1.out.size)); clear hi hb)
    | (go_at_call 9; (with_reducible refine (lives9 _).mono ?_); rintro e wl ⟨rfl, hb⟩; have BL := Lib.hid (B1.out.trans (hb.mono B1.out.size)); clear hb)
    | go_in)
  · go_ret
    exact ⟨rfl, BL.out⟩
  · have hn14 := HR1.out.le
    have HG := Lib.hid (fun x v (hb : Below w2.heap.size w2 v) => HG0.out (by omega) x v (B2.out.trans (hb.mono B2.out.size)))
    have hwl := HL.out
    have HC1 := Lib.hid (fun i (hi : i < ws.length) v (hb : Below w2.heap.size w2 v) => HC0.out (by omega) _ _ _ ws (ws.getD i 0) (I2.out.wf _ (getD_memI hi)) (by omega) v (B2.out.trans (hb.mono B2.out.size)) (I2.out.below hb))
    have hwc := I2.out.cap
    have BR := Lib.hid (Below.refl w2.heap.size w2)
    clear HC0 HG0 HO HF
    go_loopg [6, 7, 8, 9, 10] ws.length (fun gg s6 _ _ _ _ wr => ∃ kk : Nat, kk ≤ ws.length ∧ ws.length - kk ≤ gg ∧ s6 = .int .i64 (kk : Int) ∧ Hid (Below w2.heap.size w2 wr))
    case atStart => exact ⟨0, Nat.zero_le _, by omega, rfl, BR⟩
    case round =>
      obtain ⟨kk, hkk, hg, rfl, BW⟩ := hrel
      by_cases hlt : kk < ws.length
      · have hltz : (kk : Int) < (ws.length : Int) := by omega
        have hk0 : (0 : Int) ≤ (kk : Int) := by omega
        obtain ⟨j, hj, hp⟩ := HS.out.kn kk hlt
        obtain ⟨b2, off2, eA, hb2, q0, hwf⟩ := I2.out.at_ hlt
        have HQz := Lib.hid (fun v (hb : Below w2.heap.size w2 v) => (hb.cell (p := ⟨b2, off2 + kk, none⟩) hb2).trans q0)
        have HGz := Lib.hid (fun v hb => HG.out (ws.getD kk 0) v hb)
        rw [hp] at HGz
        have HC := Lib.hid (HC1.out kk hlt)
        rw [HS.out.cl kk hlt] at HC
        have HH := Lib.hid (fun v (hb : Below w2.heap.size w2 v) => has18 _ kk _ (ws.take kk) (ws.getD kk 0) v ((I2.out.takeN hkk).below hb) (by omega))
        rw [HS.out.nin kk hlt] at HH
        have rTo := Q.run_to (A := A2) (n := ws.length) (c := c2) (k := kk) hkk hwc
        have q1 := HQz.out _ BW.out
        have HPz := Lib.hid hp
        have HMz : Hid (∀ i, kk = i + 1 → ∀ j' : Nat, plc E n (ws.getD i 0) = some (j' : Int) → decide (ws.getD kk 0 ∈ (E j').zs) = true) := Lib.hid (by rintro i rfl j' hj'; exact decide_eq_true (HS.out.nx i hlt j' hj'))
        have HKz : Hid (∀ i, kk = i + 1 → (E j).kd = 3) := Lib.hid (by rintro i rfl; exact HS.out.pw i hlt j hp)
        have HJ := Lib.hid hj
        clear hp hj
        generalize ws.getD kk 0 = z at q0 q1 hwf HQz HGz HC HH HMz HPz
        clear q0 hwf
        subst eA
        go_upto_region 8 with (first
          | (go_at_call 17; (with_reducible refine (HGz.out _ BW.out).mono ?_); rintro e w3 ⟨cs1, rfl, hl', ho', hq', hb⟩; have Lcs1 := Lib.hid hl'; have Ocs1 := Lib.hid ho'; have Qcs1 := Lib.hid hq'; have Dw3 := Lib.hid hb; have Bw3 := Lib.hid (BW.out.trans (hb.mono BW.out.size)); clear hb hl' ho' hq')
          | (refine store_mid_as rfl 44 _ _ rfl w3.heap.size 0 cs1.toArray rfl rfl (show World.there (w3.alloc (.cells #[.int .i64 0, .string ⟨#[]⟩, .string ⟨#[]⟩, .int .i64 0, .bool false, .string ⟨#[]⟩, .int .i64 0, .int .i64 0, .slice none 0 0, .slice none 0 0, .string ⟨#[]⟩, .int .i64 0, .int .i64 0, .bool false, .string ⟨#[]⟩, .slice none 0 0, .slice none 0 0, .slice none 0 0, .slice none 0 0, .int .i64 0, .int .i64 0, .int .i64 0, .int .i64 0, .int .i64 0, .int .i64 0, .int .i64 0, .int .i64 0, .string ⟨#[]⟩, .int .i64 0] 44)) w3.heap.size 0 _ from (show Blk (w3.alloc (.cells #[.int .i64 0, .string ⟨#[]⟩, .string ⟨#[]⟩, .int .i64 0, .bool false, .string ⟨#[]⟩, .int .i64 0, .int .i64 0, .slice none 0 0, .slice none 0 0, .string ⟨#[]⟩, .int .i64 0, .int .i64 0, .bool false, .string ⟨#[]⟩, .slice none 0 0, .slice none 0 0, .slice none 0 0, .slice none 0 0, .int .i64 0, .int .i64 0, .int .i64 0, .int .i64 0, .int .i64 0, .int .i64 0, .int .i64 0, .int .i64 0, .string ⟨#[]⟩, .int .i64 0] 44)) w3.heap.size zE 44 from blk_new w3 zE 44).there (by rw [List.size_toArray, Lcs1.out]; decide)) (size44a Lcs1.out) (all_arr Ocs1.out) ?_; intro w4 e3; have Bw4 := Lib.hid (show Below w2.heap.size w2 w4 by rw [e3]; exact below_setRow (Bw3.out.alloc Bw3.out.size _) Bw3.out.size _ _); have Xw4 := Lib.hid (show Blk w4 w3.heap.size cs1 44 by rw [e3]; exact (show Blk (w3.alloc (.cells #[.int .i64 0, .string ⟨#[]⟩, .string ⟨#[]⟩, .int .i64 0, .bool false, .string ⟨#[]⟩, .int .i64 0, .int .i64 0, .slice none 0 0, .slice none 0 0, .string ⟨#[]⟩, .int .i64 0, .int .i64 0, .bool false, .string ⟨#[]⟩, .slice none 0 0, .slice none 0 0, .slice none 0 0, .slice none 0 0, .int .i64 0, .int .i64 0, .int .i64 0, .int .i64 0, .int .i64 0, .int .i64 0, .int .i64 0, .int .i64 0, .string ⟨#[]⟩, .int .i64 0] 44)) w3.heap.size zE 44 from blk_new w3 zE 44).setAll cs1 Lcs1.out); have Ew4 := Lib.hid (show Below w3.heap.size w3 w4 by rw [e3]; exact below_setRow ((Below.refl _ _).alloc (Nat.le_refl _) _) (Nat.le_refl _) _ _);  clear e3)
          | fail)
        refine wp_region_held_drew (S := (fun y => Below w2.heap.size w2 y)) (by kernel_rfl) (Bw4.out.drew) (fun hH0 => ?_)
        generalize hy0 : World.drew _ = y0 at hH0 ⊢
        have RB0 : Hid (Below w2.heap.size w2 y0) := Lib.hid hH0
        have XY0 := Lib.hid (show Blk y0 w3.heap.size cs1 44 by rw [← hy0]; exact Xw4.out.below ((Below.refl _ _).drew))
        clear hy0
        refine wpAnyH_take (i := 0) (oi := ({ dst := some 35, op := Op.move (Operand.tmp 8), type := 4, pos := "law.go:71", after := #[], guard := none } : Oper)) (v := ?hv10) rfl (by kernel_rfl) (by kernel_rfl) (by kernel_rfl) (fun _ _ _ h => h) (Or.inl ⟨by rfl, ?hy10⟩) (by assumption) ?hr10
        case hy10 => (intro w hSw; (try dsimp only at hSw); go_simp; (try with_reducible rfl))
        try simp only [Act.put, List.setIfInBounds_toArray, List.set_cons_zero, List.set_cons_succ]
        refine wpAnyH_take (i := 1) (oi := ({ dst := some 36, op := Op.unOp UnOp.not 4 (Operand.tmp 35), type := 4, pos := "law.go:71", after := #[{ on := 0, ground := Ground.data }], guard := none } : Oper)) (v := ?hv11) rfl (by kernel_rfl) (by kernel_rfl) (by kernel_rfl) (fun _ _ _ h => h) (Or.inl ⟨by rfl, ?hy11⟩) (by assumption) ?hr11
        case hy11 => (intro w hSw; (try dsimp only at hSw); go_simp; (try with_reducible rfl))
        try simp only [Act.put, List.setIfInBounds_toArray, List.set_cons_zero, List.set_cons_succ]
        refine wpAnyH_take (i := 2) (oi := ({ dst := some 37, op := Op.move (Operand.tmp 36), type := 4, pos := "law.go:71", after := #[{ on := 1, ground := Ground.data }], guard := none } : Oper)) (v := ?hv12) rfl (by kernel_rfl) (by kernel_rfl) (by kernel_rfl) (fun _ _ _ h => h) (Or.inl ⟨by rfl, ?hy12⟩) (by assumption) ?hr12
        case hy12 => (intro w hSw; (try dsimp only at hSw); go_simp; (try with_reducible rfl))
        try simp only [Act.put, List.setIfInBounds_toArray, List.set_cons_zero, List.set_cons_succ]
        refine wpAnyH_take (i := 3) (oi := ({ dst := some 38, op := Op.move (Operand.tmp 0), type := 22, pos := "law.go:71", after := #[{ on := 2, ground := Ground.guard }], guard := some (2, false) } : Oper)) (v := ?hv13) rfl (by kernel_rfl) (by kernel_rfl) (by kernel_rfl) (fun _ _ _ h => h) (Or.inl ⟨by rfl, ?hy13⟩) (by assumption) ?hr13
        case hy13 => (intro w hSw; (try dsimp only at hSw); go_simp; (try with_reducible rfl))
        try simp only [Act.put, List.setIfInBounds_toArray, List.set_cons_zero, List.set_cons_succ]
        refine wpAnyH_take (i := 4) (oi := ({ dst := some 39, op := Op.move (Operand.tmp 5), type := 26, pos := "law.go:71", after := #[{ on := 2, ground := Ground.guard }], guard := some (2, false) } : Oper)) (v := ?hv14) rfl (by kernel_rfl) (by kernel_rfl) (by kernel_rfl) (fun _ _ _ h => h) (Or.inl ⟨by rfl, ?hy14⟩) (by assumption) ?hr14
        case hy14 => (intro w hSw; (try dsimp only at hSw); go_simp; (try with_reducible rfl))
        try simp only [Act.put, List.setIfInBounds_toArray, List.set_cons_zero, List.set_cons_succ]
        refine wpAnyH_take (i := 5) (oi := ({ dst := some 40, op := Op.move (Operand.tmp 5), type := 26, pos := "law.go:71", after := #[{ on := 2, ground := Ground.guard }], guard := some (2, false) } : Oper)) (v := ?hv15) rfl (by kernel_rfl) (by kernel_rfl) (by kernel_rfl) (fun _ _ _ h => h) (Or.inl ⟨by rfl, ?hy15⟩) (by assumption) ?hr15
        case hy15 => (intro w hSw; (try dsimp only at hSw); go_simp; (try with_reducible rfl))
        try simp only [Act.put, List.setIfInBounds_toArray, List.set_cons_zero, List.set_cons_succ]
        refine wpAnyH_take (i := 6) (oi := ({ dst := some 41, op := Op.move (Operand.tmp 6), type := 3, pos := "law.go:71", after := #[{ on := 2, ground := Ground.guard }], guard := some (2, false) } : Oper)) (v := ?hv16) rfl (by kernel_rfl) (by kernel_rfl) (by kernel_rfl) (fun _ _ _ h => h) (Or.inl ⟨by rfl, ?hy16⟩) (by assumption) ?hr16
        case hy16 => (intro w hSw; (try dsimp only at hSw); go_simp; (try with_reducible rfl))
        try simp only [Act.put, List.setIfInBounds_toArray, List.set_cons_zero, List.set_cons_succ]
        refine wpAnyH_take (i := 7) (oi := ({ dst := some 42, op := Op.indexAddr 26 (Operand.tmp 40) (Operand.tmp 41), type := 0, pos := "law.go:71", after := #[{ on := 5, ground := Ground.data }, { on := 6, ground := Ground.data }, { on := 2, ground := Ground.guard }], guard := some (2, false) } : Oper)) (v := ?hv17) rfl (by kernel_rfl) (by kernel_rfl) (by kernel_rfl) (fun _ _ _ h => h) (Or.inl ⟨by rfl, ?hy17⟩) (by assumption) ?hr17
        case hy17 => (intro w hSw; (try dsimp only at hSw); go_simp; (try with_reducible rfl))
        try simp only [Act.put, List.setIfInBounds_toArray, List.set_cons_zero, List.set_cons_succ]
        refine wpAnyH_take (i := 8) (oi := ({ dst := some 43, op := Op.load 3 (Operand.tmp 42), type := 3, pos := "law.go:71", after := #[{ on := 7, ground := Ground.data }, { on := 2, ground := Ground.guard }], guard := some (2, false) } : Oper)) (v := .int .i64 z) rfl (by kernel_rfl) (by kernel_rfl) (by kernel_rfl) (fun _ _ _ h => h) (Or.inl ⟨by rfl, fun w0 hw0 => by have q0 := HQz.out w0 hw0; go_simp⟩) (by assumption) ?_
        try simp only [Act.put, List.setIfInBounds_toArray, List.set_cons_zero, List.set_cons_succ]
        refine wpAnyH_take (i := 10) (oi := ({ dst := some 45, op := Op.move (Operand.tmp 6), type := 3, pos := "law.go:71", after := #[{ on := 2, ground := Ground.guard }], guard := some (2, false) } : Oper)) (v := ?hv18) rfl (by kernel_rfl) (by kernel_rfl) (by kernel_rfl) (fun _ _ _ h => h) (Or.inl ⟨by rfl, ?hy18⟩) (by assumption) ?hr18
        case hy18 => (intro w hSw; (try dsimp only at hSw); go_simp; (try with_reducible rfl))
        try simp only [Act.put, List.setIfInBounds_toArray, List.set_cons_zero, List.set_cons_succ]
        refine wpAnyH_ready (rs := [9]) (by kernel_rfl) (by simp) ?_
        refine AllReadyH.cons (o := ({ dst := some 44, op := Op.call { callee := Callee.value (Operand.func 13), args := #[Operand.tmp 38, Operand.tmp 39, Operand.tmp 43], argTypes := #[22, 26, 3] }, type := 3, pos := "law.go:71", after := #[{ on := 3, ground := Ground.data }, { on := 4, ground := Ground.data }, { on := 8, ground := Ground.data }, { on := 2, ground := Ground.chain }, { on := 2, ground := Ground.guard }], guard := some (2, false) } : Oper)) rfl (fun KK hKK => ?_) AllReadyH.nil
        go_simp
        (with_reducible refine (HC.out _ RB0.out).mono ?_)
        rintro e0 y1 ⟨rfl, hb⟩
        have RB1 := Lib.hid (RB0.out.trans (hb.mono RB0.out.size)); have XY1 := Lib.hid (XY0.out.below hb)
        clear hb
        refine hKK.out _ _ (RB1.out) (fun hH1 => ?_)
        clear hKK KK
        try simp only [Act.put, List.setIfInBounds_toArray, List.set_cons_zero, List.set_cons_succ]
        refine wpAnyH_take (i := 11) (oi := ({ dst := some 46, op := Op.binOp BinOp.neq 3 (Operand.tmp 44) (Operand.tmp 45) 3, type := 4, pos := "law.go:71", after := #[{ on := 9, ground := Ground.data }, { on := 10, ground := Ground.data }, { on := 2, ground := Ground.guard }], guard := some (2, false) } : Oper)) (v := ?hv19) rfl (by kernel_rfl) (by kernel_rfl) (by kernel_rfl) (fun _ _ _ h => h) (Or.inl ⟨by rfl, ?hy19⟩) (by assumption) ?hr19
        case hy19 => (intro w hSw; (try dsimp only at hSw); go_simp; (try with_reducible rfl))
        try simp only [Act.put, List.setIfInBounds_toArray, List.set_cons_zero, List.set_cons_succ]
        refine wpAnyH_take (i := 12) (oi := ({ dst := some 47, op := Op.pick (Operand.tmp 37) (Operand.const (Value.bool true)) (Operand.tmp 46), type := 4, pos := "law.go:71", after := #[{ on := 2, ground := Ground.data }, { on := 11, ground := Ground.data }], guard := none } : Oper)) (v := ?hv20) rfl (by kernel_rfl) (by kernel_rfl) (by kernel_rfl) (fun _ _ _ h => h) (Or.inl ⟨by rfl, ?hy20⟩) (by assumption) ?hr20
        case hy20 => (intro w hSw; (try dsimp only at hSw); go_simp; (try with_reducible rfl))
        try simp only [Act.put, List.setIfInBounds_toArray, List.set_cons_zero, List.set_cons_succ]
        refine wpAnyH_take (i := 13) (oi := ({ dst := some 48, op := Op.move (Operand.tmp 47), type := 4, pos := "law.go:71", after := #[{ on := 12, ground := Ground.data }, { on := 9, ground := Ground.chain }], guard := none } : Oper)) (v := ?hv21) rfl (by kernel_rfl) (by kernel_rfl) (by kernel_rfl) (fun _ _ _ h => h) (Or.inl ⟨by rfl, ?hy21⟩) (by assumption) ?hr21
        case hy21 => (intro w hSw; (try dsimp only at hSw); go_simp; (try with_reducible rfl))
        try simp only [Act.put, List.setIfInBounds_toArray, List.set_cons_zero, List.set_cons_succ]
        refine wpAnyH_take (i := 14) (oi := ({ dst := some 49, op := Op.move (Operand.tmp 5), type := 26, pos := "law.go:71", after := #[{ on := 13, ground := Ground.guard }], guard := some (13, false) } : Oper)) (v := ?hv22) rfl (by kernel_rfl) (by kernel_rfl) (by kernel_rfl) (fun _ _ _ h => h) (Or.inl ⟨by rfl, ?hy22⟩) (by assumption) ?hr22
        case hy22 => (intro w hSw; (try dsimp only at hSw); go_simp; (try with_reducible rfl))
        try simp only [Act.put, List.setIfInBounds_toArray, List.set_cons_zero, List.set_cons_succ]
        refine wpAnyH_take (i := 15) (oi := ({ dst := some 50, op := Op.move (Operand.tmp 6), type := 3, pos := "law.go:71", after := #[{ on := 13, ground := Ground.guard }], guard := some (13, false) } : Oper)) (v := ?hv23) rfl (by kernel_rfl) (by kernel_rfl) (by kernel_rfl) (fun _ _ _ h => h) (Or.inl ⟨by rfl, ?hy23⟩) (by assumption) ?hr23
        case hy23 => (intro w hSw; (try dsimp only at hSw); go_simp; (try with_reducible rfl))
        try simp only [Act.put, List.setIfInBounds_toArray, List.set_cons_zero, List.set_cons_succ]
        refine wpAnyH_take (i := 16) (oi := ({ dst := some 51, op := Op.slice 26 (Operand.tmp 49) none (some (Operand.tmp 50)) none, type := 26, pos := "law.go:71", after := #[{ on := 14, ground := Ground.data }, { on := 15, ground := Ground.data }, { on := 13, ground := Ground.guard }], guard := some (13, false) } : Oper)) (v := ?hv24) rfl (by kernel_rfl) (by kernel_rfl) (by kernel_rfl) (fun _ _ _ h => h) (Or.inl ⟨by rfl, ?hy24⟩) (by assumption) ?hr24
        case hy24 => (intro w hSw; (try dsimp only at hSw); go_simp; (try with_reducible rfl))
        try simp only [Act.put, List.setIfInBounds_toArray, List.set_cons_zero, List.set_cons_succ]
        refine wpAnyH_take (i := 17) (oi := ({ dst := some 52, op := Op.move (Operand.tmp 5), type := 26, pos := "law.go:71", after := #[{ on := 13, ground := Ground.guard }], guard := some (13, false) } : Oper)) (v := ?hv25) rfl (by kernel_rfl) (by kernel_rfl) (by kernel_rfl) (fun _ _ _ h => h) (Or.inl ⟨by rfl, ?hy25⟩) (by assumption) ?hr25
        case hy25 => (intro w hSw; (try dsimp only at hSw); go_simp; (try with_reducible rfl))
        try simp only [Act.put, List.setIfInBounds_toArray, List.set_cons_zero, List.set_cons_succ]
        refine wpAnyH_take (i := 18) (oi := ({ dst := some 53, op := Op.move (Operand.tmp 6), type := 3, pos := "law.go:71", after := #[{ on := 13, ground := Ground.guard }], guard := some (13, false) } : Oper)) (v := ?hv26) rfl (by kernel_rfl) (by kernel_rfl) (by kernel_rfl) (fun _ _ _ h => h) (Or.inl ⟨by rfl, ?hy26⟩) (by assumption) ?hr26
        case hy26 => (intro w hSw; (try dsimp only at hSw); go_simp; (try with_reducible rfl))
        try simp only [Act.put, List.setIfInBounds_toArray, List.set_cons_zero, List.set_cons_succ]
        refine wpAnyH_take (i := 19) (oi := ({ dst := some 54, op := Op.indexAddr 26 (Operand.tmp 52) (Operand.tmp 53), type := 0, pos := "law.go:71", after := #[{ on := 17, ground := Ground.data }, { on := 18, ground := Ground.data }, { on := 13, ground := Ground.guard }], guard := some (13, false) } : Oper)) (v := ?hv27) rfl (by kernel_rfl) (by kernel_rfl) (by kernel_rfl) (fun _ _ _ h => h) (Or.inl ⟨by rfl, ?hy27⟩) (by assumption) ?hr27
        case hy27 => (intro w hSw; (try dsimp only at hSw); go_simp; (try with_reducible rfl))
        try simp only [Act.put, List.setIfInBounds_toArray, List.set_cons_zero, List.set_cons_succ]
        refine wpAnyH_take (i := 20) (oi := ({ dst := some 55, op := Op.load 3 (Operand.tmp 54), type := 3, pos := "law.go:71", after := #[{ on := 19, ground := Ground.data }, { on := 13, ground := Ground.guard }], guard := some (13, false) } : Oper)) (v := .int .i64 z) rfl (by kernel_rfl) (by kernel_rfl) (by kernel_rfl) (fun _ _ _ h => h) (Or.inl ⟨by rfl, fun w0 hw0 => by have q0 := HQz.out w0 hw0; go_simp⟩) (by assumption) ?_
        try simp only [Act.put, List.setIfInBounds_toArray, List.set_cons_zero, List.set_cons_succ]
        refine wpAnyH_ready (rs := [21]) (by kernel_rfl) (by simp) ?_
        refine AllReadyH.cons (o := ({ dst := some 56, op := Op.call { callee := Callee.value (Operand.func 18), args := #[Operand.tmp 51, Operand.tmp 55], argTypes := #[26, 3] }, type := 4, pos := "law.go:71", after := #[{ on := 16, ground := Ground.data }, { on := 20, ground := Ground.data }, { on := 13, ground := Ground.chain }, { on := 13, ground := Ground.guard }], guard := some (13, false) } : Oper)) rfl (fun KK hKK => ?_) AllReadyH.nil
        go_simp
        (with_reducible refine (HH.out _ RB1.out).mono ?_)
        rintro e0 y2 ⟨rfl, rfl⟩
        have RB2 := RB1; have XY2 := XY1
        refine hKK.out _ _ (RB2.out) (fun hH2 => ?_)
        clear hKK KK
        try simp only [Act.put, List.setIfInBounds_toArray, List.set_cons_zero, List.set_cons_succ]
        refine wpAnyH_take (i := 22) (oi := ({ dst := some 57, op := Op.pick (Operand.tmp 48) (Operand.const (Value.bool true)) (Operand.tmp 56), type := 4, pos := "law.go:71", after := #[{ on := 13, ground := Ground.data }, { on := 21, ground := Ground.data }], guard := none } : Oper)) (v := ?hv28) rfl (by kernel_rfl) (by kernel_rfl) (by kernel_rfl) (fun _ _ _ h => h) (Or.inl ⟨by rfl, ?hy28⟩) (by assumption) ?hr28
        case hy28 => (intro w hSw; (try dsimp only at hSw); go_simp; (try with_reducible rfl))
        try simp only [Act.put, List.setIfInBounds_toArray, List.set_cons_zero, List.set_cons_succ]
        refine wpAnyH_done (by kernel_rfl) ?_ _
        rcases Nat.eq_zero_or_pos kk with hz0 | hpos
        · have hkz : ((kk : Int) == 0) = true := by rw [hz0]; rfl
          clear hz0
          go_wp2
          go_roundg (ws.length - (kk + 1))
          case measure => omega
          case rel => exact ⟨kk + 1, by omega, by omega, by go_num, RB2⟩
        · have hkz : ((kk : Int) == 0) = false := by simp; omega
          have hk1 : (1 : Int) ≤ (kk : Int) := by omega
          have hk2 : (kk : Int) - 1 < (ws.length : Int) := by omega
          obtain ⟨i, rfl⟩ : ∃ i, kk = i + 1 := ⟨kk - 1, by omega⟩
          have hk5 : (0 : Int) ≤ (i : Int) + 1 := by omega
          have hk6 : (i : Int) + 1 < (ws.length : Int) := by omega
          obtain ⟨j', hj', hp'⟩ := HS.out.kn i (by omega)
          have hk3 : (1 : Int) ≤ ((i + 1 : Nat) : Int) ∧ ((i + 1 : Nat) : Int) - 1 < (ws.length : Int) := ⟨hk1, hk2⟩
          obtain ⟨b4, off4, eA4, hb4, q4, _⟩ := I2.out.at_ (show i < ws.length by omega)
          simp only [Option.some.injEq, Addr.mk.injEq, and_true] at eA4
          obtain ⟨rfl, rfl⟩ := eA4
          have q5 : y2.cell? ⟨b2, off2 + (i + 1 - 1), none⟩ = some (.int .i64 (ws.getD i 0)) := (RB2.out.cell (p := ⟨b2, off2 + (i + 1 - 1), none⟩) hb4).trans q4
          have q6 : y2.cell? ⟨b2, off2 + i, none⟩ = some (.int .i64 (ws.getD i 0)) := q5
          have HG2 := Lib.hid (fun v hb => HG.out (ws.getD i 0) v hb)
          rw [hp'] at HG2
          have HM2 := Lib.hid (HMz.out i rfl j' hp')
          have HK2 := Lib.hid (HKz.out i rfl)
          have HA := Lib.hid (fun v (hb : Below w2.heap.size w2 v) => has18 (E j').aA (E j').nA (E j').cA (E j').zs z v ((H.out.below (B2.out.trans (hb.mono B2.out.size))).au j' hj') (by have := (HR1.out rfl).2 j' hj'; omega))
          rw [HM2.out] at HA
          have HF9 := Lib.hid (H.out.fit j' hj').c9
          have HF3 := Lib.hid (H.out.fit j HJ.out).c3
          clear q4 hp' HM2 HGz HC HH
          generalize ws.getD i 0 = z' at q5 q6 HG2
          go_upto_region 12 with (first
            | (go_at_call 17; (with_reducible refine (HG2.out _ RB2.out).mono ?_); rintro e w5 ⟨cs2, rfl, hl', ho', hq', hb⟩; have Lcs2 := Lib.hid hl'; have Ocs2 := Lib.hid ho'; have Qcs2 := Lib.hid hq'; have Dw5 := Lib.hid hb; have Bw5 := Lib.hid (RB2.out.trans (hb.mono RB2.out.size)); clear hb hl' ho' hq')
            | (refine store_mid_as rfl 44 _ _ rfl w5.heap.size 0 cs2.toArray rfl rfl (show World.there (w5.alloc (.cells #[.int .i64 0, .string ⟨#[]⟩, .string ⟨#[]⟩, .int .i64 0, .bool false, .string ⟨#[]⟩, .int .i64 0, .int .i64 0, .slice none 0 0, .slice none 0 0, .string ⟨#[]⟩, .int .i64 0, .int .i64 0, .bool false, .string ⟨#[]⟩, .slice none 0 0, .slice none 0 0, .slice none 0 0, .slice none 0 0, .int .i64 0, .int .i64 0, .int .i64 0, .int .i64 0, .int .i64 0, .int .i64 0, .int .i64 0, .int .i64 0, .string ⟨#[]⟩, .int .i64 0] 44)) w5.heap.size 0 _ from (show Blk (w5.alloc (.cells #[.int .i64 0, .string ⟨#[]⟩, .string ⟨#[]⟩, .int .i64 0, .bool false, .string ⟨#[]⟩, .int .i64 0, .int .i64 0, .slice none 0 0, .slice none 0 0, .string ⟨#[]⟩, .int .i64 0, .int .i64 0, .bool false, .string ⟨#[]⟩, .slice none 0 0, .slice none 0 0, .slice none 0 0, .slice none 0 0, .int .i64 0, .int .i64 0, .int .i64 0, .int .i64 0, .int .i64 0, .int .i64 0, .int .i64 0, .int .i64 0, .string ⟨#[]⟩, .int .i64 0] 44)) w5.heap.size zE 44 from blk_new w5 zE 44).there (by rw [List.size_toArray, Lcs2.out]; decide)) (size44a Lcs2.out) (all_arr Ocs2.out) ?_; intro w6 e3; have Bw6 := Lib.hid (show Below w2.heap.size w2 w6 by rw [e3]; exact below_setRow (Bw5.out.alloc Bw5.out.size _) Bw5.out.size _ _); have Xw6 := Lib.hid (show Blk w6 w5.heap.size cs2 44 by rw [e3]; exact (show Blk (w5.alloc (.cells #[.int .i64 0, .string ⟨#[]⟩, .string ⟨#[]⟩, .int .i64 0, .bool false, .string ⟨#[]⟩, .int .i64 0, .int .i64 0, .slice none 0 0, .slice none 0 0, .string ⟨#[]⟩, .int .i64 0, .int .i64 0, .bool false, .string ⟨#[]⟩, .slice none 0 0, .slice none 0 0, .slice none 0 0, .slice none 0 0, .int .i64 0, .int .i64 0, .int .i64 0, .int .i64 0, .int .i64 0, .int .i64 0, .int .i64 0, .int .i64 0, .string ⟨#[]⟩, .int .i64 0] 44)) w5.heap.size zE 44 from blk_new w5 zE 44).setAll cs2 Lcs2.out); have Ew6 := Lib.hid (show Below w5.heap.size w5 w6 by rw [e3]; exact below_setRow ((Below.refl _ _).alloc (Nat.le_refl _) _) (Nat.le_refl _) _ _);  clear e3)
            | fail)
          have HQk := Lib.hid (fun v (hb : Below w6.heap.size w6 v) => (((XY2.out.below Dw5.out).below Ew6.out).below hb).cell (i := 3) (v := .int .i64 3) (by rw [Qcs1.out j rfl, HF3.out, HK2.out]))
          have HQa := Lib.hid (fun v (hb : Below w6.heap.size w6 v) => (Xw6.out.below hb).cell (i := 9) (v := .slice (E j').aA (E j').nA (E j').cA) (by rw [Qcs2.out j' rfl, HF9.out]))
          have HQz2 := Lib.hid (fun v (hb : Below w6.heap.size w6 v) => HQz.out v (Bw6.out.trans (hb.mono Bw6.out.size)))
          have HA2 := Lib.hid (fun v (hb : Below w6.heap.size w6 v) => HA.out v (Bw6.out.trans (hb.mono Bw6.out.size)))
          refine wp_region_held_drew (S := (fun y => Below w6.heap.size w6 y)) (by kernel_rfl) ((Below.refl w6.heap.size w6).drew) (fun hH0 => ?_)
          generalize hx0 : World.drew _ = x0 at hH0 ⊢
          have RC0 : Hid (Below w6.heap.size w6 x0) := Lib.hid hH0
          clear hx0
          refine wpAnyH_take (i := 0) (oi := ({ dst := some 70, op := Op.fieldAddr 44 (Operand.tmp 7) 3, type := 0, pos := "law.go:78", after := #[], guard := none } : Oper)) (v := ?hv1) rfl (by kernel_rfl) (by kernel_rfl) (by kernel_rfl) (fun _ _ _ h => h) (Or.inl ⟨by rfl, ?hy1⟩) (by assumption) ?hr1
          case hy1 => (intro w hSw; (try dsimp only at hSw); go_simp; (try with_reducible rfl))
          try simp only [Act.put, List.setIfInBounds_toArray, List.set_cons_zero, List.set_cons_succ]
          refine wpAnyH_take (i := 1) (oi := ({ dst := some 71, op := Op.load 33 (Operand.tmp 70), type := 33, pos := "law.go:78", after := #[{ on := 0, ground := Ground.data }], guard := none } : Oper)) (v := .int .i64 3) rfl (by kernel_rfl) (by kernel_rfl) (by kernel_rfl) (fun _ _ _ h => h) (Or.inl ⟨by rfl, fun w0 hw0 => by have q0 := HQk.out w0 hw0; go_simp⟩) (by assumption) ?_
          try simp only [Act.put, List.setIfInBounds_toArray, List.set_cons_zero, List.set_cons_succ]
          refine wpAnyH_take (i := 2) (oi := ({ dst := some 72, op := Op.binOp BinOp.neq 33 (Operand.tmp 71) (Operand.const (Value.int IntKind.i64 3)) 33, type := 4, pos := "law.go:78", after := #[{ on := 1, ground := Ground.data }], guard := none } : Oper)) (v := ?hv2) rfl (by kernel_rfl) (by kernel_rfl) (by kernel_rfl) (fun _ _ _ h => h) (Or.inl ⟨by rfl, ?hy2⟩) (by assumption) ?hr2
          case hy2 => (intro w hSw; (try dsimp only at hSw); go_simp; (try with_reducible rfl))
          try simp only [Act.put, List.setIfInBounds_toArray, List.set_cons_zero, List.set_cons_succ]
          refine wpAnyH_take (i := 3) (oi := ({ dst := some 73, op := Op.move (Operand.tmp 72), type := 4, pos := "law.go:78", after := #[{ on := 2, ground := Ground.data }], guard := none } : Oper)) (v := ?hv3) rfl (by kernel_rfl) (by kernel_rfl) (by kernel_rfl) (fun _ _ _ h => h) (Or.inl ⟨by rfl, ?hy3⟩) (by assumption) ?hr3
          case hy3 => (intro w hSw; (try dsimp only at hSw); go_simp; (try with_reducible rfl))
          try simp only [Act.put, List.setIfInBounds_toArray, List.set_cons_zero, List.set_cons_succ]
          refine wpAnyH_take (i := 4) (oi := ({ dst := some 74, op := Op.fieldAddr 44 (Operand.tmp 9) 9, type := 0, pos := "law.go:78", after := #[{ on := 3, ground := Ground.guard }], guard := some (3, false) } : Oper)) (v := ?hv4) rfl (by kernel_rfl) (by kernel_rfl) (by kernel_rfl) (fun _ _ _ h => h) (Or.inl ⟨by rfl, ?hy4⟩) (by assumption) ?hr4
          case hy4 => (intro w hSw; (try dsimp only at hSw); go_simp; (try with_reducible rfl))
          try simp only [Act.put, List.setIfInBounds_toArray, List.set_cons_zero, List.set_cons_succ]
          refine wpAnyH_take (i := 5) (oi := ({ dst := some 75, op := Op.load 26 (Operand.tmp 74), type := 26, pos := "law.go:78", after := #[{ on := 4, ground := Ground.data }, { on := 3, ground := Ground.guard }], guard := some (3, false) } : Oper)) (v := .slice (E j').aA (E j').nA (E j').cA) rfl (by kernel_rfl) (by kernel_rfl) (by kernel_rfl) (fun _ _ _ h => h) (Or.inl ⟨by rfl, fun w0 hw0 => by have q0 := HQa.out w0 hw0; go_simp⟩) (by assumption) ?_
          try simp only [Act.put, List.setIfInBounds_toArray, List.set_cons_zero, List.set_cons_succ]
          refine wpAnyH_take (i := 6) (oi := ({ dst := some 76, op := Op.move (Operand.tmp 5), type := 26, pos := "law.go:78", after := #[{ on := 3, ground := Ground.guard }], guard := some (3, false) } : Oper)) (v := ?hv5) rfl (by kernel_rfl) (by kernel_rfl) (by kernel_rfl) (fun _ _ _ h => h) (Or.inl ⟨by rfl, ?hy5⟩) (by assumption) ?hr5
          case hy5 => (intro w hSw; (try dsimp only at hSw); go_simp; (try with_reducible rfl))
          try simp only [Act.put, List.setIfInBounds_toArray, List.set_cons_zero, List.set_cons_succ]
          refine wpAnyH_take (i := 7) (oi := ({ dst := some 77, op := Op.move (Operand.tmp 6), type := 3, pos := "law.go:78", after := #[{ on := 3, ground := Ground.guard }], guard := some (3, false) } : Oper)) (v := ?hv6) rfl (by kernel_rfl) (by kernel_rfl) (by kernel_rfl) (fun _ _ _ h => h) (Or.inl ⟨by rfl, ?hy6⟩) (by assumption) ?hr6
          case hy6 => (intro w hSw; (try dsimp only at hSw); go_simp; (try with_reducible rfl))
          try simp only [Act.put, List.setIfInBounds_toArray, List.set_cons_zero, List.set_cons_succ]
          refine wpAnyH_take (i := 8) (oi := ({ dst := some 78, op := Op.indexAddr 26 (Operand.tmp 76) (Operand.tmp 77), type := 0, pos := "law.go:78", after := #[{ on := 6, ground := Ground.data }, { on := 7, ground := Ground.data }, { on := 3, ground := Ground.guard }], guard := some (3, false) } : Oper)) (v := ?hv7) rfl (by kernel_rfl) (by kernel_rfl) (by kernel_rfl) (fun _ _ _ h => h) (Or.inl ⟨by rfl, ?hy7⟩) (by assumption) ?hr7
          case hy7 => (intro w hSw; (try dsimp only at hSw); go_simp; (try with_reducible rfl))
          try simp only [Act.put, List.setIfInBounds_toArray, List.set_cons_zero, List.set_cons_succ]
          refine wpAnyH_take (i := 9) (oi := ({ dst := some 79, op := Op.load 3 (Operand.tmp 78), type := 3, pos := "law.go:78", after := #[{ on := 8, ground := Ground.data }, { on := 3, ground := Ground.guard }], guard := some (3, false) } : Oper)) (v := .int .i64 z) rfl (by kernel_rfl) (by kernel_rfl) (by kernel_rfl) (fun _ _ _ h => h) (Or.inl ⟨by rfl, fun w0 hw0 => by have q0 := HQz2.out w0 hw0; go_simp⟩) (by assumption) ?_
          try simp only [Act.put, List.setIfInBounds_toArray, List.set_cons_zero, List.set_cons_succ]
          refine wpAnyH_ready (rs := [10]) (by kernel_rfl) (by simp) ?_
          refine AllReadyH.cons (o := ({ dst := some 80, op := Op.call { callee := Callee.value (Operand.func 18), args := #[Operand.tmp 75, Operand.tmp 79], argTypes := #[26, 3] }, type := 4, pos := "law.go:78", after := #[{ on := 5, ground := Ground.data }, { on := 9, ground := Ground.data }, { on := 3, ground := Ground.chain }, { on := 3, ground := Ground.guard }], guard := some (3, false) } : Oper)) rfl (fun KK hKK => ?_) AllReadyH.nil
          go_simp
          (with_reducible refine (HA2.out _ RC0.out).mono ?_)
          rintro e0 x1 ⟨rfl, rfl⟩
          refine hKK.out _ _ (RC0.out) (fun hH1 => ?_)
          clear hKK KK
          try simp only [Act.put, List.setIfInBounds_toArray, List.set_cons_zero, List.set_cons_succ]
          refine wpAnyH_take (i := 11) (oi := ({ dst := some 81, op := Op.unOp UnOp.not 4 (Operand.tmp 80), type := 4, pos := "law.go:78", after := #[{ on := 10, ground := Ground.data }, { on := 3, ground := Ground.guard }], guard := some (3, false) } : Oper)) (v := ?hv8) rfl (by kernel_rfl) (by kernel_rfl) (by kernel_rfl) (fun _ _ _ h => h) (Or.inl ⟨by rfl, ?hy8⟩) (by assumption) ?hr8
          case hy8 => (intro w hSw; (try dsimp only at hSw); go_simp; (try with_reducible rfl))
          try simp only [Act.put, List.setIfInBounds_toArray, List.set_cons_zero, List.set_cons_succ]
          refine wpAnyH_take (i := 12) (oi := ({ dst := some 82, op := Op.pick (Operand.tmp 73) (Operand.const (Value.bool true)) (Operand.tmp 81), type := 4, pos := "law.go:78", after := #[{ on := 3, ground := Ground.data }, { on := 11, ground := Ground.data }], guard := none } : Oper)) (v := ?hv9) rfl (by kernel_rfl) (by kernel_rfl) (by kernel_rfl) (fun _ _ _ h => h) (Or.inl ⟨by rfl, ?hy9⟩) (by assumption) ?hr9
          case hy9 => (intro w hSw; (try dsimp only at hSw); go_simp; (try with_reducible rfl))
          try simp only [Act.put, List.setIfInBounds_toArray, List.set_cons_zero, List.set_cons_succ]
          refine wpAnyH_done (by kernel_rfl) ?_ _
          go_wp2
          go_roundg (ws.length - (i + 1 + 1))
          case measure => omega
          case rel => exact ⟨i + 1 + 1, by omega, by omega, by go_num, Lib.hid (Bw6.out.trans (RC0.out.mono Bw6.out.size))⟩
      · have hltz : ¬ (kk : Int) < (ws.length : Int) := by omega
        have HGi := Lib.hid (fun v hb => HG.out id v hb)
        cases hp : plc E n id with
        | none =>
          obtain rfl : ws = [] := HS.out.no (by unfold known; rw [hp]; rfl)
          rw [hp] at HGi
          clear hp
          go_wp2_with (first
            | (go_at_call 17; (with_reducible refine (HGi.out _ BW.out).mono ?_); rintro e w3 ⟨cs1, rfl, hl', ho', hq', hb⟩; have Lcs1 := Lib.hid hl'; have Ocs1 := Lib.hid ho'; have Qcs1 := Lib.hid hq'; have Dw3 := Lib.hid hb; have Bw3 := Lib.hid (BW.out.trans (hb.mono BW.out.size)); clear hb hl' ho' hq')
            | (refine store_mid_as rfl 44 _ _ rfl w3.heap.size 0 cs1.toArray rfl rfl (show World.there (w3.alloc (.cells #[.int .i64 0, .string ⟨#[]⟩, .string ⟨#[]⟩, .int .i64 0, .bool false, .string ⟨#[]⟩, .int .i64 0, .int .i64 0, .slice none 0 0, .slice none 0 0, .string ⟨#[]⟩, .int .i64 0, .int .i64 0, .bool false, .string ⟨#[]⟩, .slice none 0 0, .slice none 0 0, .slice none 0 0, .slice none 0 0, .int .i64 0, .int .i64 0, .int .i64 0, .int .i64 0, .int .i64 0, .int .i64 0, .int .i64 0, .int .i64 0, .string ⟨#[]⟩, .int .i64 0] 44)) w3.heap.size 0 _ from (show Blk (w3.alloc (.cells #[.int .i64 0, .string ⟨#[]⟩, .string ⟨#[]⟩, .int .i64 0, .bool false, .string ⟨#[]⟩, .int .i64 0, .int .i64 0, .slice none 0 0, .slice none 0 0, .string ⟨#[]⟩, .int .i64 0, .int .i64 0, .bool false, .string ⟨#[]⟩, .slice none 0 0, .slice none 0 0, .slice none 0 0, .slice none 0 0, .int .i64 0, .int .i64 0, .int .i64 0, .int .i64 0, .int .i64 0, .int .i64 0, .int .i64 0, .int .i64 0, .string ⟨#[]⟩, .int .i64 0] 44)) w3.heap.size zE 44 from blk_new w3 zE 44).there (by rw [List.size_toArray, Lcs1.out]; decide)) (size44a Lcs1.out) (all_arr Ocs1.out) ?_; intro w4 e3; have Bw4 := Lib.hid (show Below w2.heap.size w2 w4 by rw [e3]; exact below_setRow (Bw3.out.alloc Bw3.out.size _) Bw3.out.size _ _); have Xw4 := Lib.hid (show Blk w4 w3.heap.size cs1 44 by rw [e3]; exact (show Blk (w3.alloc (.cells #[.int .i64 0, .string ⟨#[]⟩, .string ⟨#[]⟩, .int .i64 0, .bool false, .string ⟨#[]⟩, .int .i64 0, .int .i64 0, .slice none 0 0, .slice none 0 0, .string ⟨#[]⟩, .int .i64 0, .int .i64 0, .bool false, .string ⟨#[]⟩, .slice none 0 0, .slice none 0 0, .slice none 0 0, .slice none 0 0, .int .i64 0, .int .i64 0, .int .i64 0, .int .i64 0, .int .i64 0, .int .i64 0, .int .i64 0, .int .i64 0, .string ⟨#[]⟩, .int .i64 0] 44)) w3.heap.size zE 44 from blk_new w3 zE 44).setAll cs1 Lcs1.out); have Ew4 := Lib.hid (show Below w3.heap.size w3 w4 by rw [e3]; exact below_setRow ((Below.refl _ _).alloc (Nat.le_refl _) _) (Nat.le_refl _) _ _);  clear e3)
            | (go_at_call 9; (with_reducible refine (lives9 _).mono ?_); rintro e wl ⟨rfl, hb⟩; have BL := Lib.hid (Bw4.out.trans (hb.mono Bw4.out.size)); clear hb)
            | go_in)
          go_ret
          exact ⟨rfl, B2.out.trans (BL.out.mono B2.out.size)⟩
        | some i =>
          obtain ⟨h0, h00⟩ := HS.out.hd (by unfold known; rw [hp]; rfl)
          rw [hp] at HGi
          obtain ⟨b2, off2, rfl, hb2, q0, _⟩ := I2.out.at_ h0
          rw [h00] at q0
          have hz0 : (0 : Int) < (ws.length : Int) := by omega
          have hz1 : ((ws.length : Int) == 0) = false := beq_eq_false_iff_ne.2 (by omega)
          have HQi := Lib.hid (fun v (hb : Below w2.heap.size w2 v) => (hb.cell (p := ⟨b2, off2 + 0, none⟩) hb2).trans q0)
          have HQi2 := Lib.hid (fun v (hb : Below w2.heap.size w2 v) => (show v.cell? ⟨b2, off2, none⟩ = _ from HQi.out v hb))
          clear hp q0
          go_wp2_with (first
            | (go_at_call 17; (with_reducible refine (HGi.out _ BW.out).mono ?_); rintro e w3 ⟨cs1, rfl, hl', ho', hq', hb⟩; have Lcs1 := Lib.hid hl'; have Ocs1 := Lib.hid ho'; have Qcs1 := Lib.hid hq'; have Dw3 := Lib.hid hb; have Bw3 := Lib.hid (BW.out.trans (hb.mono BW.out.size)); clear hb hl' ho' hq')
            | (refine store_mid_as rfl 44 _ _ rfl w3.heap.size 0 cs1.toArray rfl rfl (show World.there (w3.alloc (.cells #[.int .i64 0, .string ⟨#[]⟩, .string ⟨#[]⟩, .int .i64 0, .bool false, .string ⟨#[]⟩, .int .i64 0, .int .i64 0, .slice none 0 0, .slice none 0 0, .string ⟨#[]⟩, .int .i64 0, .int .i64 0, .bool false, .string ⟨#[]⟩, .slice none 0 0, .slice none 0 0, .slice none 0 0, .slice none 0 0, .int .i64 0, .int .i64 0, .int .i64 0, .int .i64 0, .int .i64 0, .int .i64 0, .int .i64 0, .int .i64 0, .string ⟨#[]⟩, .int .i64 0] 44)) w3.heap.size 0 _ from (show Blk (w3.alloc (.cells #[.int .i64 0, .string ⟨#[]⟩, .string ⟨#[]⟩, .int .i64 0, .bool false, .string ⟨#[]⟩, .int .i64 0, .int .i64 0, .slice none 0 0, .slice none 0 0, .string ⟨#[]⟩, .int .i64 0, .int .i64 0, .bool false, .string ⟨#[]⟩, .slice none 0 0, .slice none 0 0, .slice none 0 0, .slice none 0 0, .int .i64 0, .int .i64 0, .int .i64 0, .int .i64 0, .int .i64 0, .int .i64 0, .int .i64 0, .int .i64 0, .string ⟨#[]⟩, .int .i64 0] 44)) w3.heap.size zE 44 from blk_new w3 zE 44).there (by rw [List.size_toArray, Lcs1.out]; decide)) (size44a Lcs1.out) (all_arr Ocs1.out) ?_; intro w4 e3; have Bw4 := Lib.hid (show Below w2.heap.size w2 w4 by rw [e3]; exact below_setRow (Bw3.out.alloc Bw3.out.size _) Bw3.out.size _ _); have Xw4 := Lib.hid (show Blk w4 w3.heap.size cs1 44 by rw [e3]; exact (show Blk (w3.alloc (.cells #[.int .i64 0, .string ⟨#[]⟩, .string ⟨#[]⟩, .int .i64 0, .bool false, .string ⟨#[]⟩, .int .i64 0, .int .i64 0, .slice none 0 0, .slice none 0 0, .string ⟨#[]⟩, .int .i64 0, .int .i64 0, .bool false, .string ⟨#[]⟩, .slice none 0 0, .slice none 0 0, .slice none 0 0, .slice none 0 0, .int .i64 0, .int .i64 0, .int .i64 0, .int .i64 0, .int .i64 0, .int .i64 0, .int .i64 0, .int .i64 0, .string ⟨#[]⟩, .int .i64 0] 44)) w3.heap.size zE 44 from blk_new w3 zE 44).setAll cs1 Lcs1.out); have Ew4 := Lib.hid (show Below w3.heap.size w3 w4 by rw [e3]; exact below_setRow ((Below.refl _ _).alloc (Nat.le_refl _) _) (Nat.le_refl _) _ _); have q7 := HQi2.out _ Bw4.out; clear e3)
            | (go_at_call 9; (with_reducible refine (lives9 _).mono ?_); rintro e wl ⟨rfl, hb⟩; have BL := Lib.hid (Bw4.out.trans (hb.mono Bw4.out.size)); clear hb)
            | go_in)
          go_ret
          exact ⟨rfl, B2.out.trans (BL.out.mono B2.out.size)⟩
end Go.Proofs.Ytoljlpddcpdoiaa
