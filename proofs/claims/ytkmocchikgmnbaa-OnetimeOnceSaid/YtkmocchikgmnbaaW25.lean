/- One-time keys: the walk of OnetimeOnce. -/
import Derived.Test.YtkmocchikgmnbaaW24
import Derived.Test.YtkmocchikgmnbaaW21
import Derived.Deep.RegionHeld3
import Derived.Deep.Cut
import Derived.Deep.CutRange
import Derived.Deep.QuietTactic
import Derived.BigQuiet
namespace Go.Proofs.Ytkmocchikgmnbaa
open Go.RowKit
set_option linter.unusedVariables false
set_option linter.unusedSimpArgs false

theorem Rcs.setOther {w : World} {A : Option Addr} {n c : Nat} {zs : List Rc} (h : Rcs w A n c zs) (a : Addr) (v : Value) (hne : 0 < n → ∀ b off, A = some ⟨b, off, none⟩ → b ≠ a.block) : Rcs (w.setCell a v) A n c zs := by
  refine ⟨⟨h.rws.len, h.rws.one, h.rws.big, h.rws.nil, ?_⟩, h.len, h.cap, h.fit⟩
  rcases h.rws.at_ with h0 | ⟨b, off, e, hlt, hc⟩
  · exact .inl h0
  · rcases Nat.eq_zero_or_pos n with h0 | h0
    · exact .inl h0
    · exact .inr ⟨b, off, e, by simpa using hlt, fun j hj i v' hv => (World.cell?_of_block (a := ⟨b, off + j * 4 + i, none⟩) (heap_setCell_other w a b v (hne h0 b off e))).trans (hc j hj i v' hv)⟩
def two (f : Bool → Int) : List Value := [.int .i64 (f false), .int .i64 (f true)]
theorem two_set (f : Bool → Int) (x : Int) : two (upd f false x) = (two f).set 0 (.int .i64 x) := rfl
theorem two_set1 (f : Bool → Int) (x : Int) : two (upd f true x) = (two f).set 1 (.int .i64 x) := rfl
/-- What holds between two steps: T the first block of the three. -/
structure Mem (T : Nat) (w : World) (k : Nat) (A : Option Addr) (n c : Nat) (zs : List Rc) (up cl : Bool → Int) (wx : World) : Prop where
  rcs : Rcs wx A n c zs
  new : 0 < n → ∀ b off, A = some ⟨b, off, none⟩ → T + 3 ≤ b
  st : St zs up cl k
  ups : Blk wx T (two up) 39
  cls : Blk wx (T + 1) (two cl) 39
  nms : Blk wx (T + 2) [.string ⟨#[112, 104, 111, 110, 101]⟩, .string ⟨#[100, 101, 115, 107]⟩] 40
  bel : Below w.heap.size w wx
  big : T + 3 ≤ wx.heap.size
  old : w.heap.size ≤ T
section
variable {T : Nat} {w : World} {k : Nat} {A : Option Addr} {n c : Nat} {zs : List Rc} {up cl : Bool → Int} {wx : World}
theorem Mem.more (h : Mem T w k A n c zs up cl wx) : Mem T w (k + 1) A n c zs up cl wx := ⟨h.rcs, h.new, h.st.more, h.ups, h.cls, h.nms, h.bel, h.big, h.old⟩
theorem Mem.below (h : Mem T w k A n c zs up cl wx) {wy : World} (hb : Below wx.heap.size wx wy) : Mem T w k A n c zs up cl wy :=
  ⟨h.rcs.below hb, h.new, h.st, h.ups.below hb, h.cls.below hb, h.nms.below hb, h.bel.trans (hb.mono h.bel.size), Nat.le_trans h.big hb.size, h.old⟩
theorem Mem.upload (h : Mem T w k A n c zs up cl wx) (hk : k ≤ 60) {o : Bool} {N : Int} (h1 : 1 ≤ N) (h2 : N ≤ 100) (h3 : up o - cl o ≤ 200 - N) {wy : World} {A' : Option Addr} {c' : Nat} {ys : List Rc}
    (ho : OutP wx 0 (putL zs (upP zs ann (nmD o) N)) A' c' ys wy) : Mem T w (k + 1) A' ys.length c' ys (upd up o (up o + N)) cl (wy.setCell ⟨T, if o then 1 else 0, none⟩ (.int .i64 (up o + N))) := by
  obtain ⟨hr, hb, hn, h0, _⟩ := ho
  have hm := h.below hb
  have hne : 0 < ys.length → ∀ b off, A' = some ⟨b, off, none⟩ → T + 3 ≤ b := fun h0 b off e => Nat.le_trans h.big (hn h0 b off e)
  refine ⟨hr.setOther _ _ (fun h0 b off e => by have := hne h0 b off e; show b ≠ T; omega), hne, h.st.upload hk h1 h2 h3 (h0 rfl).2 (h0 rfl).1, ?_, hm.cls.other _ _ (by show T + 1 ≠ T; omega), hm.nms.other _ _ (by show T + 2 ≠ T; omega), hm.bel.setCell (p := ⟨T, _, none⟩) h.old _, by simpa using hm.big, h.old⟩
  cases o
  · exact hm.ups.set 0 _
  · exact hm.ups.set 1 _
theorem Mem.claim (h : Mem T w k A n c zs up cl wx) (hk : k ≤ 60) {o : Bool} (h1 : cl o < up o) {wy : World} {A' : Option Addr} {c' : Nat} {ys : List Rc}
    (ho : OutP wx 0 (putL zs (clP zs ann (nmD o))) A' c' ys wy) : Mem T w (k + 1) A' ys.length c' ys up (upd cl o (cl o + 1)) (wy.setCell ⟨T + 1, if o then 1 else 0, none⟩ (.int .i64 (cl o + 1))) := by
  obtain ⟨hr, hb, hn, h0, _⟩ := ho
  have hm := h.below hb
  have hne : 0 < ys.length → ∀ b off, A' = some ⟨b, off, none⟩ → T + 3 ≤ b := fun h0 b off e => Nat.le_trans h.big (hn h0 b off e)
  refine ⟨hr.setOther _ _ (fun h0 b off e => by have := hne h0 b off e; show b ≠ T + 1; omega), hne, h.st.claim hk h1 (h0 rfl).2 (h0 rfl).1, hm.ups.other _ _ (by show T ≠ T + 1; omega), ?_, hm.nms.other _ _ (by show T + 2 ≠ T + 1; omega), hm.bel.setCell (p := ⟨T + 1, _, none⟩) (Nat.le_succ_of_le h.old) _, by simpa using hm.big, h.old⟩
  cases o
  · exact hm.cls.set 0 _
  · exact hm.cls.set 1 _
end
theorem OutP.drewN {w0 w' : World} {E : Int} {zs ys : List Rc} {A : Option Addr} {c : Nat} (h : OutP w0 E zs A c ys w') (k : Nat) : OutP w0 E zs A c ys (w'.drewN k) :=
  ⟨h.1.below (below_drewN (Below.refl _ w') k), below_drewN h.2.1 k, h.2.2⟩
def MemX (T : Nat) (w : World) (k : Nat) (v : Value) (wx : World) : Prop := ∃ A n c zs up cl, v = .slice A n c ∧ Mem T w k A n c zs up cl wx
theorem up_false {T : Nat} {w : World} {k : Nat} {A : Option Addr} {n c : Nat} {zs : List Rc} {up cl : Bool → Int} {wx : World} (h : Mem T w k A n c zs up cl wx) (hk : k ≤ 60) (N : Int) (y : World) (hb : Below wx.heap.size wx y) (r : Int) (hr : upE zs ann (nmD false) N = r) :
    Calls Try.prog 12 #[.slice A n c, .string ⟨#[64, 97, 110, 110, 58, 97]⟩, .string ⟨#[112, 104, 111, 110, 101]⟩, .int .i64 N] y fun e w' => ∃ A' c' ys, e = .returned (.tuple #[.slice A' ys.length c', .int .i64 r]) ∧ OutP y r (putL zs (upP zs ann (nmD false) N)) A' c' ys w' := by
  subst hr
  exact upload_any A n c zs ann (nmD false) N y (h.rcs.below hb) (by have := h.st.len; have := h.rcs.len; omega) ann_size (nmD_size _)
theorem cl_false {T : Nat} {w : World} {k : Nat} {A : Option Addr} {n c : Nat} {zs : List Rc} {up cl : Bool → Int} {wx : World} (h : Mem T w k A n c zs up cl wx) (hk : k ≤ 60) (y : World) (hb : Below wx.heap.size wx y) (r q : Int) (hr : clE zs ann (nmD false) = r) (hq : clK zs ann (nmD false) = q) :
    Calls Try.prog 15 #[.slice A n c, .string ⟨#[64, 97, 110, 110, 58, 97]⟩, .string ⟨#[112, 104, 111, 110, 101]⟩] y fun e w' => ∃ A' c' ys, e = .returned (.tuple #[.slice A' ys.length c', .int .i64 q, .int .i64 r]) ∧ OutP y r (putL zs (clP zs ann (nmD false))) A' c' ys w' := by
  subst hr hq
  exact claim_any A n c zs ann (nmD false) y (h.rcs.below hb) (by have := h.st.len; have := h.rcs.len; omega) ann_size (nmD_size _)
theorem left_false {T : Nat} {w : World} {k : Nat} {A : Option Addr} {n c : Nat} {zs : List Rc} {up cl : Bool → Int} {wx : World} (h : Mem T w k A n c zs up cl wx) (hk : k ≤ 61) (y : World) (hb : Below wx.heap.size wx y) :
    Calls Try.prog 17 #[.slice A n c, .string ⟨#[64, 97, 110, 110, 58, 97]⟩, .string ⟨#[112, 104, 111, 110, 101]⟩] y fun e w' => e = .returned (.int .i64 (up false - cl false)) ∧ Below y.heap.size y w' := by
  have := left_any A n c zs ann (nmD false) y (h.rcs.below hb) (by have := h.st.len; have := h.rcs.len; omega)
  rw [h.st.lf] at this
  exact this
theorem up_true {T : Nat} {w : World} {k : Nat} {A : Option Addr} {n c : Nat} {zs : List Rc} {up cl : Bool → Int} {wx : World} (h : Mem T w k A n c zs up cl wx) (hk : k ≤ 60) (N : Int) (y : World) (hb : Below wx.heap.size wx y) (r : Int) (hr : upE zs ann (nmD true) N = r) :
    Calls Try.prog 12 #[.slice A n c, .string ⟨#[64, 97, 110, 110, 58, 97]⟩, .string ⟨#[100, 101, 115, 107]⟩, .int .i64 N] y fun e w' => ∃ A' c' ys, e = .returned (.tuple #[.slice A' ys.length c', .int .i64 r]) ∧ OutP y r (putL zs (upP zs ann (nmD true) N)) A' c' ys w' := by
  subst hr
  exact upload_any A n c zs ann (nmD true) N y (h.rcs.below hb) (by have := h.st.len; have := h.rcs.len; omega) ann_size (nmD_size _)
theorem cl_true {T : Nat} {w : World} {k : Nat} {A : Option Addr} {n c : Nat} {zs : List Rc} {up cl : Bool → Int} {wx : World} (h : Mem T w k A n c zs up cl wx) (hk : k ≤ 60) (y : World) (hb : Below wx.heap.size wx y) (r q : Int) (hr : clE zs ann (nmD true) = r) (hq : clK zs ann (nmD true) = q) :
    Calls Try.prog 15 #[.slice A n c, .string ⟨#[64, 97, 110, 110, 58, 97]⟩, .string ⟨#[100, 101, 115, 107]⟩] y fun e w' => ∃ A' c' ys, e = .returned (.tuple #[.slice A' ys.length c', .int .i64 q, .int .i64 r]) ∧ OutP y r (putL zs (clP zs ann (nmD true))) A' c' ys w' := by
  subst hr hq
  exact claim_any A n c zs ann (nmD true) y (h.rcs.below hb) (by have := h.st.len; have := h.rcs.len; omega) ann_size (nmD_size _)
theorem left_true {T : Nat} {w : World} {k : Nat} {A : Option Addr} {n c : Nat} {zs : List Rc} {up cl : Bool → Int} {wx : World} (h : Mem T w k A n c zs up cl wx) (hk : k ≤ 61) (y : World) (hb : Below wx.heap.size wx y) :
    Calls Try.prog 17 #[.slice A n c, .string ⟨#[64, 97, 110, 110, 58, 97]⟩, .string ⟨#[100, 101, 115, 107]⟩] y fun e w' => e = .returned (.int .i64 (up true - cl true)) ∧ Below y.heap.size y w' := by
  have := left_any A n c zs ann (nmD true) y (h.rcs.below hb) (by have := h.st.len; have := h.rcs.len; omega)
  rw [h.st.lf] at this
  exact this
theorem chk_0 {T : Nat} {w : World} {k : Nat} {A : Option Addr} {n c : Nat} {zs : List Rc} {up cl : Bool → Int} {wx : World} (h : Mem T w k A n c zs up cl wx) (hk : k ≤ 61) (y : World) (hb : Below wx.heap.size wx y) :
    Calls Try.prog 10 #[.slice A n c] y fun e w' => e = .returned (.int .i64 0) ∧ Below y.heap.size y w' := by
  have h1 := check10 A n c zs y (h.rcs.below hb) (by have := h.st.len; have := h.rcs.len; omega)
  rw [← h.rcs.len, h.st.chk, h.rcs.len] at h1
  exact h1
set_option maxRecDepth 100000 in
set_option maxHeartbeats 16000000 in
theorem once_walk (A : Option Addr) (m c : Nat) (zs : List Sp) (w : World) (h : Sps w A m c zs) : Calls Try.prog 7 #[.slice A m c] w fun e w' => e = .returned (.bool true) ∧ Below w.heap.size w w' := by
  by_cases hm : m ≤ 60
  · have hm2 : ¬ (60 : Int) < (m : Int) := by omega
    have H := Lib.hid h
    clear h
    go_enter Try.func7, Try.ntmps7
    go_wp2
    go_loopg [3, 7, 8, 9, 10, 11, 12, 13, 14] m (fun gg s3 s7 _ _ _ _ _ _ _ wr => ∃ kk : Nat, kk ≤ m ∧ m - kk ≤ gg ∧ s7 = .int .i64 kk ∧ Hid (MemX w.heap.size w kk s3 wr))
    case atStart => 
      refine ⟨0, Nat.zero_le _, by omega, rfl, Lib.hid ⟨none, 0, 0, [], fun _ => 0, fun _ => 0, rfl, Rcs.nil _, fun h => absurd h (by omega), St.start, ((blk_new w (two (fun _ => 0)) 39).alloc _).alloc _, ?_, ?_, (((Below.refl _ w).alloc (Nat.le_refl _) _).alloc (by simp) _).alloc (by simp; omega) _, by simp, Nat.le_refl _⟩⟩
      · have h1 := blk_new (w.alloc (.cells (two (fun _ => 0)).toArray 39)) (two (fun _ => 0)) 39
        rw [World.size_alloc] at h1
        exact h1.alloc _
      · exact blk_new3 w _ _ _ _
    case round =>
      obtain ⟨kk, hkk, hg, rfl, HX⟩ := hrel
      obtain ⟨A1, n1, c1, xs, up, cl, rfl, hM⟩ := HX.out
      have HM := Lib.hid hM
      clear hM HX
      by_cases hlt : kk < m
      · have hltz : (kk : Int) < (m : Int) := by omega
        obtain ⟨b, off, rfl, hbl, k0, k1, hfit⟩ := (H.out.below HM.out.bel).at_ hlt
        generalize zs.getD kk sp0 = p at k0 k1 hfit
        obtain ⟨o, N⟩ := p
        simp only at k0 k1
        have hfit' : -9223372036854775808 ≤ N ∧ N ≤ 9223372036854775807 := hfit
        clear hfit
        cases o
        · have hle := HM.out.st.le false
          obtain ⟨u, hu⟩ : ∃ u, up false = u := ⟨_, rfl⟩
          obtain ⟨q, hq⟩ : ∃ q, cl false = q := ⟨_, rfl⟩
          rw [hu, hq] at hle
          have HU := Lib.hid hu
          have HQ := Lib.hid hq
          have e1 : IntKind.i64.wrap (u - q) = u - q := IntWalk.i64_in _ (by omega)
          clear hu hq
          go_upto_if 38 with (fail)
          go_cut [3, 9, 10, 11, 12, 13, 14] from 22 to 160 (fun s3 _ _ _ _ _ _ wx => MemX w.heap.size w (kk + 1) s3 wx)
          case first =>
            by_cases hN : N = 0
            · have hNb : (N != 0) = false := by simpa using hN
              have e4 : IntKind.i64.wrap (q + 1) = q + 1 := IntWalk.i64_in _ (by omega)
              by_cases h1 : q < u
              · skip
                have z0 := HM.out.nms.cell (i := 0) rfl
                go_upto_region 21 with (go_at_call 15; (with_reducible refine (cl_false HM.out (by omega) _ (Below.refl _ _) 0 q (by rw [HM.out.st.clE false, HU.out, HQ.out]; exact if_pos h1) (by rw [HM.out.st.clK false (by rw [HU.out, HQ.out]; exact h1)]; exact HQ.out)).mono ?_); rintro e y1 ⟨A2, c2, ys, rfl, ho⟩; have OP := Lib.hid ho; have RB1 := Lib.hid ho.2.1; clear ho)
                have z2 := (HM.out.ups.below RB1.out).cell (i := 0) rfl
                have z3 := (HM.out.cls.below RB1.out).cell (i := 0) rfl
                rw [HU.out] at z2
                rw [HQ.out] at z3
                have z4 := (HM.out.cls.below RB1.out).free 0
                have hg1 : decide (q < u) = true := decide_eq_true (by omega)
                have hq0 : (q != q) = false := by simp
                go_quiet (fail)
                go_wp2
                go_meet
                case rel =>
                  have h9 := HM.out.claim (o := false) (by omega) (by rw [HU.out, HQ.out]; exact h1) (OP.out.drewN nq)
                  rw [HQ.out] at h9
                  exact ⟨_, _, _, _, _, _, rfl, h9⟩
              · skip
                have z0 := HM.out.nms.cell (i := 0) rfl
                have HE9 := Lib.hid (by rw [HM.out.st.clE false, HU.out, HQ.out]; exact if_neg h1 : clE xs ann (nmD false) = 5)
                go_upto_region 21 with (go_at_call 15; (with_reducible refine (cl_false HM.out (by omega) _ (Below.refl _ _) 5 0 (by rw [HM.out.st.clE false, HU.out, HQ.out]; exact if_neg h1) (by unfold clK; rw [show clE xs ann (nmD false) = 5 from HE9.out, if_neg (by decide)])).mono ?_); rintro e y1 ⟨A2, c2, ys, rfl, ho⟩; have OP := Lib.hid ho; have RB1 := Lib.hid ho.2.1; clear ho)
                have z2 := (HM.out.ups.below RB1.out).cell (i := 0) rfl
                have z3 := (HM.out.cls.below RB1.out).cell (i := 0) rfl
                rw [HU.out] at z2
                rw [HQ.out] at z3
                have z4 := (HM.out.cls.below RB1.out).free 0
                have hg1 : decide (q < u) = false := decide_eq_false (by omega)
                have hq0 : (q != q) = false := by simp
                go_quiet (fail)
                go_wp2
                go_meet
                case rel => exact ⟨_, _, _, _, _, _, rfl, (HM.out.below (below_drewN RB1.out _)).more⟩
            · have hNb : (N != 0) = true := by simpa using hN
              by_cases h1 : 1 ≤ N
              · by_cases h2 : N ≤ 100
                · have e2 : IntKind.i64.wrap (200 - N) = 200 - N := IntWalk.i64_in _ (by omega)
                  have e3 : IntKind.i64.wrap (u + N) = u + N := IntWalk.i64_in _ (by omega)
                  by_cases h3 : u - q ≤ 200 - N
                  · skip
                    go_upto_region 13 with (fail)
                    refine wp_region_held_drew (S := (fun w0 => Below wr.heap.size wr w0)) (by kernel_rfl) ((Below.refl _ _).drew) (fun hH0 => ?_)
                    generalize wr.drew = y0 at hH0 ⊢
                    have RB0 : Hid (Below wr.heap.size wr y0) := Lib.hid hH0
                    refine wpAnyH_take (i := 0) (oi := ({ dst := some 40, op := Op.move (Operand.tmp 3), type := 22, pos := "law.go:85", after := #[], guard := none } : Oper)) (v := ?hv1) rfl (by kernel_rfl) (by kernel_rfl) (by kernel_rfl) (fun _ _ _ h => h) (Or.inl ⟨by rfl, ?hy1⟩) (by assumption) ?hr1
                    case hy1 => (intro w hSw; (try dsimp only at hSw); go_simp; (try with_reducible rfl))
                    try simp only [Act.put, List.setIfInBounds_toArray, List.set_cons_zero, List.set_cons_succ]
                    refine wpAnyH_take (i := 1) (oi := ({ dst := some 41, op := Op.move (Operand.tmp 8), type := 3, pos := "law.go:85", after := #[], guard := none } : Oper)) (v := ?hv2) rfl (by kernel_rfl) (by kernel_rfl) (by kernel_rfl) (fun _ _ _ h => h) (Or.inl ⟨by rfl, ?hy2⟩) (by assumption) ?hr2
                    case hy2 => (intro w hSw; (try dsimp only at hSw); go_simp; (try with_reducible rfl))
                    try simp only [Act.put, List.setIfInBounds_toArray, List.set_cons_zero, List.set_cons_succ]
                    refine wpAnyH_take (i := 2) (oi := ({ dst := some 42, op := Op.indexAddr 40 (Operand.tmp 6) (Operand.tmp 41), type := 0, pos := "law.go:85", after := #[{ on := 1, ground := Ground.data }], guard := none } : Oper)) (v := ?hv3) rfl (by kernel_rfl) (by kernel_rfl) (by kernel_rfl) (fun _ _ _ h => h) (Or.inl ⟨by rfl, ?hy3⟩) (by assumption) ?hr3
                    case hy3 => (intro w hSw; (try dsimp only at hSw); go_simp; (try with_reducible rfl))
                    try simp only [Act.put, List.setIfInBounds_toArray, List.set_cons_zero, List.set_cons_succ]
                    refine wpAnyH_take (i := 3) (oi := ({ dst := some 43, op := Op.load 9 (Operand.tmp 42), type := 9, pos := "law.go:85", after := #[{ on := 2, ground := Ground.data }], guard := none } : Oper)) (v := .string ⟨#[112, 104, 111, 110, 101]⟩) rfl (by kernel_rfl) (by kernel_rfl) (by kernel_rfl) (fun _ _ _ h => h) (Or.inl ⟨by rfl, fun w0 hw0 => by have q0 := (HM.out.nms.below hw0).cell (i := 0) rfl; go_simp⟩) (by assumption) ?_
                    try simp only [Act.put, List.setIfInBounds_toArray, List.set_cons_zero, List.set_cons_succ]
                    refine wpAnyH_take (i := 4) (oi := ({ dst := some 44, op := Op.move (Operand.tmp 0), type := 38, pos := "law.go:85", after := #[], guard := none } : Oper)) (v := ?hv4) rfl (by kernel_rfl) (by kernel_rfl) (by kernel_rfl) (fun _ _ _ h => h) (Or.inl ⟨by rfl, ?hy4⟩) (by assumption) ?hr4
                    case hy4 => (intro w hSw; (try dsimp only at hSw); go_simp; (try with_reducible rfl))
                    try simp only [Act.put, List.setIfInBounds_toArray, List.set_cons_zero, List.set_cons_succ]
                    refine wpAnyH_take (i := 5) (oi := ({ dst := some 45, op := Op.move (Operand.tmp 7), type := 3, pos := "law.go:85", after := #[], guard := none } : Oper)) (v := ?hv5) rfl (by kernel_rfl) (by kernel_rfl) (by kernel_rfl) (fun _ _ _ h => h) (Or.inl ⟨by rfl, ?hy5⟩) (by assumption) ?hr5
                    case hy5 => (intro w hSw; (try dsimp only at hSw); go_simp; (try with_reducible rfl))
                    try simp only [Act.put, List.setIfInBounds_toArray, List.set_cons_zero, List.set_cons_succ]
                    refine wpAnyH_take (i := 6) (oi := ({ dst := some 46, op := Op.indexAddr 38 (Operand.tmp 44) (Operand.tmp 45), type := 0, pos := "law.go:85", after := #[{ on := 4, ground := Ground.data }, { on := 5, ground := Ground.data }], guard := none } : Oper)) (v := ?hv6) rfl (by kernel_rfl) (by kernel_rfl) (by kernel_rfl) (fun _ _ _ h => h) (Or.inl ⟨by rfl, ?hy6⟩) (by assumption) ?hr6
                    case hy6 => (intro w hSw; (try dsimp only at hSw); go_simp; (try with_reducible rfl))
                    try simp only [Act.put, List.setIfInBounds_toArray, List.set_cons_zero, List.set_cons_succ]
                    refine wpAnyH_take (i := 7) (oi := ({ dst := some 47, op := Op.fieldAddr 42 (Operand.tmp 46) 1, type := 0, pos := "law.go:85", after := #[{ on := 6, ground := Ground.data }], guard := none } : Oper)) (v := ?hv7) rfl (by kernel_rfl) (by kernel_rfl) (by kernel_rfl) (fun _ _ _ h => h) (Or.inl ⟨by rfl, ?hy7⟩) (by assumption) ?hr7
                    case hy7 => (intro w hSw; (try dsimp only at hSw); go_simp; (try with_reducible rfl))
                    try simp only [Act.put, List.setIfInBounds_toArray, List.set_cons_zero, List.set_cons_succ]
                    refine wpAnyH_take (i := 8) (oi := ({ dst := some 48, op := Op.load 3 (Operand.tmp 47), type := 3, pos := "law.go:85", after := #[{ on := 7, ground := Ground.data }], guard := none } : Oper)) (v := .int .i64 N) rfl (by kernel_rfl) (by kernel_rfl) (by kernel_rfl) (fun _ _ _ h => h) (Or.inl ⟨by rfl, fun w0 hw0 => by have q0 := (hw0.cell (p := ⟨b, off + kk * 2 + 1, none⟩) hbl).trans k1; go_simp⟩) (by assumption) ?_
                    try simp only [Act.put, List.setIfInBounds_toArray, List.set_cons_zero, List.set_cons_succ]
                    refine wpAnyH_ready (rs := [9]) (by kernel_rfl) (by simp) ?_
                    refine AllReadyH.cons (o := ({ dst := some 49, op := Op.call { callee := Callee.value (Operand.func 12), args := #[Operand.tmp 40, Operand.const (Value.string { data := #[64, 97, 110, 110, 58, 97] }), Operand.tmp 43, Operand.tmp 48], argTypes := #[22, 9, 9, 3] }, type := 29, pos := "law.go:85", after := #[{ on := 0, ground := Ground.data }, { on := 3, ground := Ground.data }, { on := 8, ground := Ground.data }], guard := none } : Oper)) rfl (fun KK hKK => ?_) AllReadyH.nil
                    go_simp
                    (with_reducible refine (up_false HM.out (by omega) N _ RB0.out 0 (by rw [HM.out.st.upE (by omega) false]; rw [if_neg (by omega), if_neg (by have := HU.out; have := HQ.out; omega)])).mono ?_)
                    rintro e0 y1 ⟨A2, c2, ys, rfl, ho⟩
                    have hb := ho.2.1
                    have RB1 := Lib.hid (RB0.out.trans (hb.mono RB0.out.size))
                    have OP := Lib.hid ho
                    clear ho
                    clear hb
                    refine hKK.out _ _ (RB1.out) (fun hH1 => ?_)
                    clear hKK KK
                    try simp only [Act.put, List.setIfInBounds_toArray, List.set_cons_zero, List.set_cons_succ]
                    refine wpAnyH_take (i := 10) (oi := ({ dst := some 39, op := Op.move (Operand.tmp 49), type := 29, pos := "law.go:85", after := #[{ on := 9, ground := Ground.data }], guard := none } : Oper)) (v := ?hv8) rfl (by kernel_rfl) (by kernel_rfl) (by kernel_rfl) (fun _ _ _ h => h) (Or.inl ⟨by rfl, ?hy8⟩) (by assumption) ?hr8
                    case hy8 => (intro w hSw; (try dsimp only at hSw); go_simp; (try with_reducible rfl))
                    try simp only [Act.put, List.setIfInBounds_toArray, List.set_cons_zero, List.set_cons_succ]
                    refine wpAnyH_take (i := 11) (oi := ({ dst := some 50, op := Op.extract (Operand.tmp 39) 0, type := 22, pos := "law.go:85", after := #[{ on := 10, ground := Ground.data }], guard := none } : Oper)) (v := ?hv9) rfl (by kernel_rfl) (by kernel_rfl) (by kernel_rfl) (fun _ _ _ h => h) (Or.inl ⟨by rfl, ?hy9⟩) (by assumption) ?hr9
                    case hy9 => (intro w hSw; (try dsimp only at hSw); go_simp; (try with_reducible rfl))
                    try simp only [Act.put, List.setIfInBounds_toArray, List.set_cons_zero, List.set_cons_succ]
                    refine wpAnyH_take (i := 12) (oi := ({ dst := some 51, op := Op.extract (Operand.tmp 39) 1, type := 25, pos := "law.go:85", after := #[{ on := 10, ground := Ground.data }, { on := 13, ground := Ground.gcOnly Departure.lateStores }], guard := none } : Oper)) (v := ?hv10) rfl (by kernel_rfl) (by kernel_rfl) (by kernel_rfl) (fun _ _ _ h => h) (Or.inl ⟨by rfl, ?hy10⟩) (by assumption) ?hr10
                    case hy10 => (intro w hSw; (try dsimp only at hSw); go_simp; (try with_reducible rfl))
                    try simp only [Act.put, List.setIfInBounds_toArray, List.set_cons_zero, List.set_cons_succ]
                    refine wpAnyH_take (i := 13) (oi := ({ dst := some 9, op := Op.assign (Operand.tmp 50), type := 22, pos := "law.go:85", after := #[{ on := 11, ground := Ground.data }, { on := 9, ground := Ground.chain }, { on := 0, ground := Ground.phase }, { on := 1, ground := Ground.phase }, { on := 2, ground := Ground.phase }, { on := 3, ground := Ground.phase }, { on := 4, ground := Ground.phase }, { on := 5, ground := Ground.phase }, { on := 6, ground := Ground.phase }, { on := 7, ground := Ground.phase }, { on := 8, ground := Ground.phase }, { on := 9, ground := Ground.phase }, { on := 10, ground := Ground.phase }, { on := 11, ground := Ground.phase }, { on := 12, ground := Ground.textOnly Departure.lateStores }], guard := none } : Oper)) (v := ?hv11) rfl (by kernel_rfl) (by kernel_rfl) (by kernel_rfl) (fun _ _ _ h => h) (Or.inl ⟨by rfl, ?hy11⟩) (by assumption) ?hr11
                    case hy11 => (intro w hSw; (try dsimp only at hSw); go_simp; (try with_reducible rfl))
                    try simp only [Act.put, List.setIfInBounds_toArray, List.set_cons_zero, List.set_cons_succ]
                    refine wpAnyH_take (i := 14) (oi := ({ dst := some 10, op := Op.assign (Operand.tmp 51), type := 25, pos := "law.go:85", after := #[{ on := 12, ground := Ground.data }, { on := 13, ground := Ground.chain }, { on := 0, ground := Ground.phase }, { on := 1, ground := Ground.phase }, { on := 2, ground := Ground.phase }, { on := 3, ground := Ground.phase }, { on := 4, ground := Ground.phase }, { on := 5, ground := Ground.phase }, { on := 6, ground := Ground.phase }, { on := 7, ground := Ground.phase }, { on := 8, ground := Ground.phase }, { on := 9, ground := Ground.phase }, { on := 10, ground := Ground.phase }, { on := 11, ground := Ground.phase }, { on := 12, ground := Ground.phase }, { on := 13, ground := Ground.phase }], guard := none } : Oper)) (v := ?hv12) rfl (by kernel_rfl) (by kernel_rfl) (by kernel_rfl) (fun _ _ _ h => h) (Or.inl ⟨by rfl, ?hy12⟩) (by assumption) ?hr12
                    case hy12 => (intro w hSw; (try dsimp only at hSw); go_simp; (try with_reducible rfl))
                    try simp only [Act.put, List.setIfInBounds_toArray, List.set_cons_zero, List.set_cons_succ]
                    refine wpAnyH_done (by kernel_rfl) ?_ _
                    have z1 := (RB1.out.cell (p := ⟨b, off + kk * 2 + 1, none⟩) hbl).trans k1
                    have z2 := (HM.out.ups.below RB1.out).cell (i := 0) rfl
                    have z3 := (HM.out.cls.below RB1.out).cell (i := 0) rfl
                    rw [HU.out] at z2
                    rw [HQ.out] at z3
                    have z4 := (HM.out.ups.below RB1.out).free 0
                    have hg1 : decide ((1 : Int) ≤ N) = true := decide_eq_true h1
                    have hg2 : decide (N ≤ (100 : Int)) = true := decide_eq_true h2
                    have hg3 : decide (u - q ≤ 200 - N) = true := decide_eq_true h3
                    go_upto_region 14 with (fail)
                    go_quiet (fail)
                    go_upto_region 19 with (fail)
                    go_region
                    go_wp2
                    go_meet
                    case rel =>
                      have h9 := (HM.out.below RB0.out).upload (o := false) (by omega) h1 h2 (by rw [HU.out, HQ.out]; exact h3) (OP.out.drewN (nq + 1))
                      rw [HU.out] at h9
                      exact ⟨_, _, _, _, _, _, rfl, h9⟩
                  · skip
                    go_upto_region 13 with (fail)
                    refine wp_region_held_drew (S := (fun w0 => Below wr.heap.size wr w0)) (by kernel_rfl) ((Below.refl _ _).drew) (fun hH0 => ?_)
                    generalize wr.drew = y0 at hH0 ⊢
                    have RB0 : Hid (Below wr.heap.size wr y0) := Lib.hid hH0
                    refine wpAnyH_take (i := 0) (oi := ({ dst := some 40, op := Op.move (Operand.tmp 3), type := 22, pos := "law.go:85", after := #[], guard := none } : Oper)) (v := ?hv13) rfl (by kernel_rfl) (by kernel_rfl) (by kernel_rfl) (fun _ _ _ h => h) (Or.inl ⟨by rfl, ?hy13⟩) (by assumption) ?hr13
                    case hy13 => (intro w hSw; (try dsimp only at hSw); go_simp; (try with_reducible rfl))
                    try simp only [Act.put, List.setIfInBounds_toArray, List.set_cons_zero, List.set_cons_succ]
                    refine wpAnyH_take (i := 1) (oi := ({ dst := some 41, op := Op.move (Operand.tmp 8), type := 3, pos := "law.go:85", after := #[], guard := none } : Oper)) (v := ?hv14) rfl (by kernel_rfl) (by kernel_rfl) (by kernel_rfl) (fun _ _ _ h => h) (Or.inl ⟨by rfl, ?hy14⟩) (by assumption) ?hr14
                    case hy14 => (intro w hSw; (try dsimp only at hSw); go_simp; (try with_reducible rfl))
                    try simp only [Act.put, List.setIfInBounds_toArray, List.set_cons_zero, List.set_cons_succ]
                    refine wpAnyH_take (i := 2) (oi := ({ dst := some 42, op := Op.indexAddr 40 (Operand.tmp 6) (Operand.tmp 41), type := 0, pos := "law.go:85", after := #[{ on := 1, ground := Ground.data }], guard := none } : Oper)) (v := ?hv15) rfl (by kernel_rfl) (by kernel_rfl) (by kernel_rfl) (fun _ _ _ h => h) (Or.inl ⟨by rfl, ?hy15⟩) (by assumption) ?hr15
                    case hy15 => (intro w hSw; (try dsimp only at hSw); go_simp; (try with_reducible rfl))
                    try simp only [Act.put, List.setIfInBounds_toArray, List.set_cons_zero, List.set_cons_succ]
                    refine wpAnyH_take (i := 3) (oi := ({ dst := some 43, op := Op.load 9 (Operand.tmp 42), type := 9, pos := "law.go:85", after := #[{ on := 2, ground := Ground.data }], guard := none } : Oper)) (v := .string ⟨#[112, 104, 111, 110, 101]⟩) rfl (by kernel_rfl) (by kernel_rfl) (by kernel_rfl) (fun _ _ _ h => h) (Or.inl ⟨by rfl, fun w0 hw0 => by have q0 := (HM.out.nms.below hw0).cell (i := 0) rfl; go_simp⟩) (by assumption) ?_
                    try simp only [Act.put, List.setIfInBounds_toArray, List.set_cons_zero, List.set_cons_succ]
                    refine wpAnyH_take (i := 4) (oi := ({ dst := some 44, op := Op.move (Operand.tmp 0), type := 38, pos := "law.go:85", after := #[], guard := none } : Oper)) (v := ?hv16) rfl (by kernel_rfl) (by kernel_rfl) (by kernel_rfl) (fun _ _ _ h => h) (Or.inl ⟨by rfl, ?hy16⟩) (by assumption) ?hr16
                    case hy16 => (intro w hSw; (try dsimp only at hSw); go_simp; (try with_reducible rfl))
                    try simp only [Act.put, List.setIfInBounds_toArray, List.set_cons_zero, List.set_cons_succ]
                    refine wpAnyH_take (i := 5) (oi := ({ dst := some 45, op := Op.move (Operand.tmp 7), type := 3, pos := "law.go:85", after := #[], guard := none } : Oper)) (v := ?hv17) rfl (by kernel_rfl) (by kernel_rfl) (by kernel_rfl) (fun _ _ _ h => h) (Or.inl ⟨by rfl, ?hy17⟩) (by assumption) ?hr17
                    case hy17 => (intro w hSw; (try dsimp only at hSw); go_simp; (try with_reducible rfl))
                    try simp only [Act.put, List.setIfInBounds_toArray, List.set_cons_zero, List.set_cons_succ]
                    refine wpAnyH_take (i := 6) (oi := ({ dst := some 46, op := Op.indexAddr 38 (Operand.tmp 44) (Operand.tmp 45), type := 0, pos := "law.go:85", after := #[{ on := 4, ground := Ground.data }, { on := 5, ground := Ground.data }], guard := none } : Oper)) (v := ?hv18) rfl (by kernel_rfl) (by kernel_rfl) (by kernel_rfl) (fun _ _ _ h => h) (Or.inl ⟨by rfl, ?hy18⟩) (by assumption) ?hr18
                    case hy18 => (intro w hSw; (try dsimp only at hSw); go_simp; (try with_reducible rfl))
                    try simp only [Act.put, List.setIfInBounds_toArray, List.set_cons_zero, List.set_cons_succ]
                    refine wpAnyH_take (i := 7) (oi := ({ dst := some 47, op := Op.fieldAddr 42 (Operand.tmp 46) 1, type := 0, pos := "law.go:85", after := #[{ on := 6, ground := Ground.data }], guard := none } : Oper)) (v := ?hv19) rfl (by kernel_rfl) (by kernel_rfl) (by kernel_rfl) (fun _ _ _ h => h) (Or.inl ⟨by rfl, ?hy19⟩) (by assumption) ?hr19
                    case hy19 => (intro w hSw; (try dsimp only at hSw); go_simp; (try with_reducible rfl))
                    try simp only [Act.put, List.setIfInBounds_toArray, List.set_cons_zero, List.set_cons_succ]
                    refine wpAnyH_take (i := 8) (oi := ({ dst := some 48, op := Op.load 3 (Operand.tmp 47), type := 3, pos := "law.go:85", after := #[{ on := 7, ground := Ground.data }], guard := none } : Oper)) (v := .int .i64 N) rfl (by kernel_rfl) (by kernel_rfl) (by kernel_rfl) (fun _ _ _ h => h) (Or.inl ⟨by rfl, fun w0 hw0 => by have q0 := (hw0.cell (p := ⟨b, off + kk * 2 + 1, none⟩) hbl).trans k1; go_simp⟩) (by assumption) ?_
                    try simp only [Act.put, List.setIfInBounds_toArray, List.set_cons_zero, List.set_cons_succ]
                    refine wpAnyH_ready (rs := [9]) (by kernel_rfl) (by simp) ?_
                    refine AllReadyH.cons (o := ({ dst := some 49, op := Op.call { callee := Callee.value (Operand.func 12), args := #[Operand.tmp 40, Operand.const (Value.string { data := #[64, 97, 110, 110, 58, 97] }), Operand.tmp 43, Operand.tmp 48], argTypes := #[22, 9, 9, 3] }, type := 29, pos := "law.go:85", after := #[{ on := 0, ground := Ground.data }, { on := 3, ground := Ground.data }, { on := 8, ground := Ground.data }], guard := none } : Oper)) rfl (fun KK hKK => ?_) AllReadyH.nil
                    go_simp
                    (with_reducible refine (up_false HM.out (by omega) N _ RB0.out 29 (by rw [HM.out.st.upE (by omega) false]; rw [if_neg (by omega), if_pos (by have := HU.out; have := HQ.out; omega)])).mono ?_)
                    rintro e0 y1 ⟨A2, c2, ys, rfl, ho⟩
                    have hb := ho.2.1
                    have RB1 := Lib.hid (RB0.out.trans (hb.mono RB0.out.size))
                    have OP := Lib.hid ho
                    clear ho
                    clear hb
                    refine hKK.out _ _ (RB1.out) (fun hH1 => ?_)
                    clear hKK KK
                    try simp only [Act.put, List.setIfInBounds_toArray, List.set_cons_zero, List.set_cons_succ]
                    refine wpAnyH_take (i := 10) (oi := ({ dst := some 39, op := Op.move (Operand.tmp 49), type := 29, pos := "law.go:85", after := #[{ on := 9, ground := Ground.data }], guard := none } : Oper)) (v := ?hv20) rfl (by kernel_rfl) (by kernel_rfl) (by kernel_rfl) (fun _ _ _ h => h) (Or.inl ⟨by rfl, ?hy20⟩) (by assumption) ?hr20
                    case hy20 => (intro w hSw; (try dsimp only at hSw); go_simp; (try with_reducible rfl))
                    try simp only [Act.put, List.setIfInBounds_toArray, List.set_cons_zero, List.set_cons_succ]
                    refine wpAnyH_take (i := 11) (oi := ({ dst := some 50, op := Op.extract (Operand.tmp 39) 0, type := 22, pos := "law.go:85", after := #[{ on := 10, ground := Ground.data }], guard := none } : Oper)) (v := ?hv21) rfl (by kernel_rfl) (by kernel_rfl) (by kernel_rfl) (fun _ _ _ h => h) (Or.inl ⟨by rfl, ?hy21⟩) (by assumption) ?hr21
                    case hy21 => (intro w hSw; (try dsimp only at hSw); go_simp; (try with_reducible rfl))
                    try simp only [Act.put, List.setIfInBounds_toArray, List.set_cons_zero, List.set_cons_succ]
                    refine wpAnyH_take (i := 12) (oi := ({ dst := some 51, op := Op.extract (Operand.tmp 39) 1, type := 25, pos := "law.go:85", after := #[{ on := 10, ground := Ground.data }, { on := 13, ground := Ground.gcOnly Departure.lateStores }], guard := none } : Oper)) (v := ?hv22) rfl (by kernel_rfl) (by kernel_rfl) (by kernel_rfl) (fun _ _ _ h => h) (Or.inl ⟨by rfl, ?hy22⟩) (by assumption) ?hr22
                    case hy22 => (intro w hSw; (try dsimp only at hSw); go_simp; (try with_reducible rfl))
                    try simp only [Act.put, List.setIfInBounds_toArray, List.set_cons_zero, List.set_cons_succ]
                    refine wpAnyH_take (i := 13) (oi := ({ dst := some 9, op := Op.assign (Operand.tmp 50), type := 22, pos := "law.go:85", after := #[{ on := 11, ground := Ground.data }, { on := 9, ground := Ground.chain }, { on := 0, ground := Ground.phase }, { on := 1, ground := Ground.phase }, { on := 2, ground := Ground.phase }, { on := 3, ground := Ground.phase }, { on := 4, ground := Ground.phase }, { on := 5, ground := Ground.phase }, { on := 6, ground := Ground.phase }, { on := 7, ground := Ground.phase }, { on := 8, ground := Ground.phase }, { on := 9, ground := Ground.phase }, { on := 10, ground := Ground.phase }, { on := 11, ground := Ground.phase }, { on := 12, ground := Ground.textOnly Departure.lateStores }], guard := none } : Oper)) (v := ?hv23) rfl (by kernel_rfl) (by kernel_rfl) (by kernel_rfl) (fun _ _ _ h => h) (Or.inl ⟨by rfl, ?hy23⟩) (by assumption) ?hr23
                    case hy23 => (intro w hSw; (try dsimp only at hSw); go_simp; (try with_reducible rfl))
                    try simp only [Act.put, List.setIfInBounds_toArray, List.set_cons_zero, List.set_cons_succ]
                    refine wpAnyH_take (i := 14) (oi := ({ dst := some 10, op := Op.assign (Operand.tmp 51), type := 25, pos := "law.go:85", after := #[{ on := 12, ground := Ground.data }, { on := 13, ground := Ground.chain }, { on := 0, ground := Ground.phase }, { on := 1, ground := Ground.phase }, { on := 2, ground := Ground.phase }, { on := 3, ground := Ground.phase }, { on := 4, ground := Ground.phase }, { on := 5, ground := Ground.phase }, { on := 6, ground := Ground.phase }, { on := 7, ground := Ground.phase }, { on := 8, ground := Ground.phase }, { on := 9, ground := Ground.phase }, { on := 10, ground := Ground.phase }, { on := 11, ground := Ground.phase }, { on := 12, ground := Ground.phase }, { on := 13, ground := Ground.phase }], guard := none } : Oper)) (v := ?hv24) rfl (by kernel_rfl) (by kernel_rfl) (by kernel_rfl) (fun _ _ _ h => h) (Or.inl ⟨by rfl, ?hy24⟩) (by assumption) ?hr24
                    case hy24 => (intro w hSw; (try dsimp only at hSw); go_simp; (try with_reducible rfl))
                    try simp only [Act.put, List.setIfInBounds_toArray, List.set_cons_zero, List.set_cons_succ]
                    refine wpAnyH_done (by kernel_rfl) ?_ _
                    have z1 := (RB1.out.cell (p := ⟨b, off + kk * 2 + 1, none⟩) hbl).trans k1
                    have z2 := (HM.out.ups.below RB1.out).cell (i := 0) rfl
                    have z3 := (HM.out.cls.below RB1.out).cell (i := 0) rfl
                    rw [HU.out] at z2
                    rw [HQ.out] at z3
                    have z4 := (HM.out.ups.below RB1.out).free 0
                    have hg1 : decide ((1 : Int) ≤ N) = true := decide_eq_true h1
                    have hg2 : decide (N ≤ (100 : Int)) = true := decide_eq_true h2
                    have hg3 : decide (u - q ≤ 200 - N) = false := decide_eq_false (by omega)
                    go_upto_region 14 with (fail)
                    go_quiet (fail)
                    go_wp2
                    go_meet
                    case rel => exact ⟨_, _, _, _, _, _, rfl, (HM.out.below (below_drewN RB1.out _)).more⟩
                · skip
                  go_upto_region 13 with (fail)
                  refine wp_region_held_drew (S := (fun w0 => Below wr.heap.size wr w0)) (by kernel_rfl) ((Below.refl _ _).drew) (fun hH0 => ?_)
                  generalize wr.drew = y0 at hH0 ⊢
                  have RB0 : Hid (Below wr.heap.size wr y0) := Lib.hid hH0
                  refine wpAnyH_take (i := 0) (oi := ({ dst := some 40, op := Op.move (Operand.tmp 3), type := 22, pos := "law.go:85", after := #[], guard := none } : Oper)) (v := ?hv25) rfl (by kernel_rfl) (by kernel_rfl) (by kernel_rfl) (fun _ _ _ h => h) (Or.inl ⟨by rfl, ?hy25⟩) (by assumption) ?hr25
                  case hy25 => (intro w hSw; (try dsimp only at hSw); go_simp; (try with_reducible rfl))
                  try simp only [Act.put, List.setIfInBounds_toArray, List.set_cons_zero, List.set_cons_succ]
                  refine wpAnyH_take (i := 1) (oi := ({ dst := some 41, op := Op.move (Operand.tmp 8), type := 3, pos := "law.go:85", after := #[], guard := none } : Oper)) (v := ?hv26) rfl (by kernel_rfl) (by kernel_rfl) (by kernel_rfl) (fun _ _ _ h => h) (Or.inl ⟨by rfl, ?hy26⟩) (by assumption) ?hr26
                  case hy26 => (intro w hSw; (try dsimp only at hSw); go_simp; (try with_reducible rfl))
                  try simp only [Act.put, List.setIfInBounds_toArray, List.set_cons_zero, List.set_cons_succ]
                  refine wpAnyH_take (i := 2) (oi := ({ dst := some 42, op := Op.indexAddr 40 (Operand.tmp 6) (Operand.tmp 41), type := 0, pos := "law.go:85", after := #[{ on := 1, ground := Ground.data }], guard := none } : Oper)) (v := ?hv27) rfl (by kernel_rfl) (by kernel_rfl) (by kernel_rfl) (fun _ _ _ h => h) (Or.inl ⟨by rfl, ?hy27⟩) (by assumption) ?hr27
                  case hy27 => (intro w hSw; (try dsimp only at hSw); go_simp; (try with_reducible rfl))
                  try simp only [Act.put, List.setIfInBounds_toArray, List.set_cons_zero, List.set_cons_succ]
                  refine wpAnyH_take (i := 3) (oi := ({ dst := some 43, op := Op.load 9 (Operand.tmp 42), type := 9, pos := "law.go:85", after := #[{ on := 2, ground := Ground.data }], guard := none } : Oper)) (v := .string ⟨#[112, 104, 111, 110, 101]⟩) rfl (by kernel_rfl) (by kernel_rfl) (by kernel_rfl) (fun _ _ _ h => h) (Or.inl ⟨by rfl, fun w0 hw0 => by have q0 := (HM.out.nms.below hw0).cell (i := 0) rfl; go_simp⟩) (by assumption) ?_
                  try simp only [Act.put, List.setIfInBounds_toArray, List.set_cons_zero, List.set_cons_succ]
                  refine wpAnyH_take (i := 4) (oi := ({ dst := some 44, op := Op.move (Operand.tmp 0), type := 38, pos := "law.go:85", after := #[], guard := none } : Oper)) (v := ?hv28) rfl (by kernel_rfl) (by kernel_rfl) (by kernel_rfl) (fun _ _ _ h => h) (Or.inl ⟨by rfl, ?hy28⟩) (by assumption) ?hr28
                  case hy28 => (intro w hSw; (try dsimp only at hSw); go_simp; (try with_reducible rfl))
                  try simp only [Act.put, List.setIfInBounds_toArray, List.set_cons_zero, List.set_cons_succ]
                  refine wpAnyH_take (i := 5) (oi := ({ dst := some 45, op := Op.move (Operand.tmp 7), type := 3, pos := "law.go:85", after := #[], guard := none } : Oper)) (v := ?hv29) rfl (by kernel_rfl) (by kernel_rfl) (by kernel_rfl) (fun _ _ _ h => h) (Or.inl ⟨by rfl, ?hy29⟩) (by assumption) ?hr29
                  case hy29 => (intro w hSw; (try dsimp only at hSw); go_simp; (try with_reducible rfl))
                  try simp only [Act.put, List.setIfInBounds_toArray, List.set_cons_zero, List.set_cons_succ]
                  refine wpAnyH_take (i := 6) (oi := ({ dst := some 46, op := Op.indexAddr 38 (Operand.tmp 44) (Operand.tmp 45), type := 0, pos := "law.go:85", after := #[{ on := 4, ground := Ground.data }, { on := 5, ground := Ground.data }], guard := none } : Oper)) (v := ?hv30) rfl (by kernel_rfl) (by kernel_rfl) (by kernel_rfl) (fun _ _ _ h => h) (Or.inl ⟨by rfl, ?hy30⟩) (by assumption) ?hr30
                  case hy30 => (intro w hSw; (try dsimp only at hSw); go_simp; (try with_reducible rfl))
                  try simp only [Act.put, List.setIfInBounds_toArray, List.set_cons_zero, List.set_cons_succ]
                  refine wpAnyH_take (i := 7) (oi := ({ dst := some 47, op := Op.fieldAddr 42 (Operand.tmp 46) 1, type := 0, pos := "law.go:85", after := #[{ on := 6, ground := Ground.data }], guard := none } : Oper)) (v := ?hv31) rfl (by kernel_rfl) (by kernel_rfl) (by kernel_rfl) (fun _ _ _ h => h) (Or.inl ⟨by rfl, ?hy31⟩) (by assumption) ?hr31
                  case hy31 => (intro w hSw; (try dsimp only at hSw); go_simp; (try with_reducible rfl))
                  try simp only [Act.put, List.setIfInBounds_toArray, List.set_cons_zero, List.set_cons_succ]
                  refine wpAnyH_take (i := 8) (oi := ({ dst := some 48, op := Op.load 3 (Operand.tmp 47), type := 3, pos := "law.go:85", after := #[{ on := 7, ground := Ground.data }], guard := none } : Oper)) (v := .int .i64 N) rfl (by kernel_rfl) (by kernel_rfl) (by kernel_rfl) (fun _ _ _ h => h) (Or.inl ⟨by rfl, fun w0 hw0 => by have q0 := (hw0.cell (p := ⟨b, off + kk * 2 + 1, none⟩) hbl).trans k1; go_simp⟩) (by assumption) ?_
                  try simp only [Act.put, List.setIfInBounds_toArray, List.set_cons_zero, List.set_cons_succ]
                  refine wpAnyH_ready (rs := [9]) (by kernel_rfl) (by simp) ?_
                  refine AllReadyH.cons (o := ({ dst := some 49, op := Op.call { callee := Callee.value (Operand.func 12), args := #[Operand.tmp 40, Operand.const (Value.string { data := #[64, 97, 110, 110, 58, 97] }), Operand.tmp 43, Operand.tmp 48], argTypes := #[22, 9, 9, 3] }, type := 29, pos := "law.go:85", after := #[{ on := 0, ground := Ground.data }, { on := 3, ground := Ground.data }, { on := 8, ground := Ground.data }], guard := none } : Oper)) rfl (fun KK hKK => ?_) AllReadyH.nil
                  go_simp
                  (with_reducible refine (up_false HM.out (by omega) N _ RB0.out 2 (by rw [HM.out.st.upE (by omega) false]; rw [if_pos (by omega)])).mono ?_)
                  rintro e0 y1 ⟨A2, c2, ys, rfl, ho⟩
                  have hb := ho.2.1
                  have RB1 := Lib.hid (RB0.out.trans (hb.mono RB0.out.size))
                  have OP := Lib.hid ho
                  clear ho
                  clear hb
                  refine hKK.out _ _ (RB1.out) (fun hH1 => ?_)
                  clear hKK KK
                  try simp only [Act.put, List.setIfInBounds_toArray, List.set_cons_zero, List.set_cons_succ]
                  refine wpAnyH_take (i := 10) (oi := ({ dst := some 39, op := Op.move (Operand.tmp 49), type := 29, pos := "law.go:85", after := #[{ on := 9, ground := Ground.data }], guard := none } : Oper)) (v := ?hv32) rfl (by kernel_rfl) (by kernel_rfl) (by kernel_rfl) (fun _ _ _ h => h) (Or.inl ⟨by rfl, ?hy32⟩) (by assumption) ?hr32
                  case hy32 => (intro w hSw; (try dsimp only at hSw); go_simp; (try with_reducible rfl))
                  try simp only [Act.put, List.setIfInBounds_toArray, List.set_cons_zero, List.set_cons_succ]
                  refine wpAnyH_take (i := 11) (oi := ({ dst := some 50, op := Op.extract (Operand.tmp 39) 0, type := 22, pos := "law.go:85", after := #[{ on := 10, ground := Ground.data }], guard := none } : Oper)) (v := ?hv33) rfl (by kernel_rfl) (by kernel_rfl) (by kernel_rfl) (fun _ _ _ h => h) (Or.inl ⟨by rfl, ?hy33⟩) (by assumption) ?hr33
                  case hy33 => (intro w hSw; (try dsimp only at hSw); go_simp; (try with_reducible rfl))
                  try simp only [Act.put, List.setIfInBounds_toArray, List.set_cons_zero, List.set_cons_succ]
                  refine wpAnyH_take (i := 12) (oi := ({ dst := some 51, op := Op.extract (Operand.tmp 39) 1, type := 25, pos := "law.go:85", after := #[{ on := 10, ground := Ground.data }, { on := 13, ground := Ground.gcOnly Departure.lateStores }], guard := none } : Oper)) (v := ?hv34) rfl (by kernel_rfl) (by kernel_rfl) (by kernel_rfl) (fun _ _ _ h => h) (Or.inl ⟨by rfl, ?hy34⟩) (by assumption) ?hr34
                  case hy34 => (intro w hSw; (try dsimp only at hSw); go_simp; (try with_reducible rfl))
                  try simp only [Act.put, List.setIfInBounds_toArray, List.set_cons_zero, List.set_cons_succ]
                  refine wpAnyH_take (i := 13) (oi := ({ dst := some 9, op := Op.assign (Operand.tmp 50), type := 22, pos := "law.go:85", after := #[{ on := 11, ground := Ground.data }, { on := 9, ground := Ground.chain }, { on := 0, ground := Ground.phase }, { on := 1, ground := Ground.phase }, { on := 2, ground := Ground.phase }, { on := 3, ground := Ground.phase }, { on := 4, ground := Ground.phase }, { on := 5, ground := Ground.phase }, { on := 6, ground := Ground.phase }, { on := 7, ground := Ground.phase }, { on := 8, ground := Ground.phase }, { on := 9, ground := Ground.phase }, { on := 10, ground := Ground.phase }, { on := 11, ground := Ground.phase }, { on := 12, ground := Ground.textOnly Departure.lateStores }], guard := none } : Oper)) (v := ?hv35) rfl (by kernel_rfl) (by kernel_rfl) (by kernel_rfl) (fun _ _ _ h => h) (Or.inl ⟨by rfl, ?hy35⟩) (by assumption) ?hr35
                  case hy35 => (intro w hSw; (try dsimp only at hSw); go_simp; (try with_reducible rfl))
                  try simp only [Act.put, List.setIfInBounds_toArray, List.set_cons_zero, List.set_cons_succ]
                  refine wpAnyH_take (i := 14) (oi := ({ dst := some 10, op := Op.assign (Operand.tmp 51), type := 25, pos := "law.go:85", after := #[{ on := 12, ground := Ground.data }, { on := 13, ground := Ground.chain }, { on := 0, ground := Ground.phase }, { on := 1, ground := Ground.phase }, { on := 2, ground := Ground.phase }, { on := 3, ground := Ground.phase }, { on := 4, ground := Ground.phase }, { on := 5, ground := Ground.phase }, { on := 6, ground := Ground.phase }, { on := 7, ground := Ground.phase }, { on := 8, ground := Ground.phase }, { on := 9, ground := Ground.phase }, { on := 10, ground := Ground.phase }, { on := 11, ground := Ground.phase }, { on := 12, ground := Ground.phase }, { on := 13, ground := Ground.phase }], guard := none } : Oper)) (v := ?hv36) rfl (by kernel_rfl) (by kernel_rfl) (by kernel_rfl) (fun _ _ _ h => h) (Or.inl ⟨by rfl, ?hy36⟩) (by assumption) ?hr36
                  case hy36 => (intro w hSw; (try dsimp only at hSw); go_simp; (try with_reducible rfl))
                  try simp only [Act.put, List.setIfInBounds_toArray, List.set_cons_zero, List.set_cons_succ]
                  refine wpAnyH_done (by kernel_rfl) ?_ _
                  have z1 := (RB1.out.cell (p := ⟨b, off + kk * 2 + 1, none⟩) hbl).trans k1
                  have z2 := (HM.out.ups.below RB1.out).cell (i := 0) rfl
                  have z3 := (HM.out.cls.below RB1.out).cell (i := 0) rfl
                  rw [HU.out] at z2
                  rw [HQ.out] at z3
                  have z4 := (HM.out.ups.below RB1.out).free 0
                  have hg1 : decide ((1 : Int) ≤ N) = true := decide_eq_true h1
                  have hg2 : decide (N ≤ (100 : Int)) = false := decide_eq_false (by omega)
                  go_upto_region 14 with (fail)
                  go_quiet (fail)
                  go_wp2
                  go_meet
                  case rel => exact ⟨_, _, _, _, _, _, rfl, (HM.out.below (below_drewN RB1.out _)).more⟩
              · skip
                go_upto_region 13 with (fail)
                refine wp_region_held_drew (S := (fun w0 => Below wr.heap.size wr w0)) (by kernel_rfl) ((Below.refl _ _).drew) (fun hH0 => ?_)
                generalize wr.drew = y0 at hH0 ⊢
                have RB0 : Hid (Below wr.heap.size wr y0) := Lib.hid hH0
                refine wpAnyH_take (i := 0) (oi := ({ dst := some 40, op := Op.move (Operand.tmp 3), type := 22, pos := "law.go:85", after := #[], guard := none } : Oper)) (v := ?hv37) rfl (by kernel_rfl) (by kernel_rfl) (by kernel_rfl) (fun _ _ _ h => h) (Or.inl ⟨by rfl, ?hy37⟩) (by assumption) ?hr37
                case hy37 => (intro w hSw; (try dsimp only at hSw); go_simp; (try with_reducible rfl))
                try simp only [Act.put, List.setIfInBounds_toArray, List.set_cons_zero, List.set_cons_succ]
                refine wpAnyH_take (i := 1) (oi := ({ dst := some 41, op := Op.move (Operand.tmp 8), type := 3, pos := "law.go:85", after := #[], guard := none } : Oper)) (v := ?hv38) rfl (by kernel_rfl) (by kernel_rfl) (by kernel_rfl) (fun _ _ _ h => h) (Or.inl ⟨by rfl, ?hy38⟩) (by assumption) ?hr38
                case hy38 => (intro w hSw; (try dsimp only at hSw); go_simp; (try with_reducible rfl))
                try simp only [Act.put, List.setIfInBounds_toArray, List.set_cons_zero, List.set_cons_succ]
                refine wpAnyH_take (i := 2) (oi := ({ dst := some 42, op := Op.indexAddr 40 (Operand.tmp 6) (Operand.tmp 41), type := 0, pos := "law.go:85", after := #[{ on := 1, ground := Ground.data }], guard := none } : Oper)) (v := ?hv39) rfl (by kernel_rfl) (by kernel_rfl) (by kernel_rfl) (fun _ _ _ h => h) (Or.inl ⟨by rfl, ?hy39⟩) (by assumption) ?hr39
                case hy39 => (intro w hSw; (try dsimp only at hSw); go_simp; (try with_reducible rfl))
                try simp only [Act.put, List.setIfInBounds_toArray, List.set_cons_zero, List.set_cons_succ]
                refine wpAnyH_take (i := 3) (oi := ({ dst := some 43, op := Op.load 9 (Operand.tmp 42), type := 9, pos := "law.go:85", after := #[{ on := 2, ground := Ground.data }], guard := none } : Oper)) (v := .string ⟨#[112, 104, 111, 110, 101]⟩) rfl (by kernel_rfl) (by kernel_rfl) (by kernel_rfl) (fun _ _ _ h => h) (Or.inl ⟨by rfl, fun w0 hw0 => by have q0 := (HM.out.nms.below hw0).cell (i := 0) rfl; go_simp⟩) (by assumption) ?_
                try simp only [Act.put, List.setIfInBounds_toArray, List.set_cons_zero, List.set_cons_succ]
                refine wpAnyH_take (i := 4) (oi := ({ dst := some 44, op := Op.move (Operand.tmp 0), type := 38, pos := "law.go:85", after := #[], guard := none } : Oper)) (v := ?hv40) rfl (by kernel_rfl) (by kernel_rfl) (by kernel_rfl) (fun _ _ _ h => h) (Or.inl ⟨by rfl, ?hy40⟩) (by assumption) ?hr40
                case hy40 => (intro w hSw; (try dsimp only at hSw); go_simp; (try with_reducible rfl))
                try simp only [Act.put, List.setIfInBounds_toArray, List.set_cons_zero, List.set_cons_succ]
                refine wpAnyH_take (i := 5) (oi := ({ dst := some 45, op := Op.move (Operand.tmp 7), type := 3, pos := "law.go:85", after := #[], guard := none } : Oper)) (v := ?hv41) rfl (by kernel_rfl) (by kernel_rfl) (by kernel_rfl) (fun _ _ _ h => h) (Or.inl ⟨by rfl, ?hy41⟩) (by assumption) ?hr41
                case hy41 => (intro w hSw; (try dsimp only at hSw); go_simp; (try with_reducible rfl))
                try simp only [Act.put, List.setIfInBounds_toArray, List.set_cons_zero, List.set_cons_succ]
                refine wpAnyH_take (i := 6) (oi := ({ dst := some 46, op := Op.indexAddr 38 (Operand.tmp 44) (Operand.tmp 45), type := 0, pos := "law.go:85", after := #[{ on := 4, ground := Ground.data }, { on := 5, ground := Ground.data }], guard := none } : Oper)) (v := ?hv42) rfl (by kernel_rfl) (by kernel_rfl) (by kernel_rfl) (fun _ _ _ h => h) (Or.inl ⟨by rfl, ?hy42⟩) (by assumption) ?hr42
                case hy42 => (intro w hSw; (try dsimp only at hSw); go_simp; (try with_reducible rfl))
                try simp only [Act.put, List.setIfInBounds_toArray, List.set_cons_zero, List.set_cons_succ]
                refine wpAnyH_take (i := 7) (oi := ({ dst := some 47, op := Op.fieldAddr 42 (Operand.tmp 46) 1, type := 0, pos := "law.go:85", after := #[{ on := 6, ground := Ground.data }], guard := none } : Oper)) (v := ?hv43) rfl (by kernel_rfl) (by kernel_rfl) (by kernel_rfl) (fun _ _ _ h => h) (Or.inl ⟨by rfl, ?hy43⟩) (by assumption) ?hr43
                case hy43 => (intro w hSw; (try dsimp only at hSw); go_simp; (try with_reducible rfl))
                try simp only [Act.put, List.setIfInBounds_toArray, List.set_cons_zero, List.set_cons_succ]
                refine wpAnyH_take (i := 8) (oi := ({ dst := some 48, op := Op.load 3 (Operand.tmp 47), type := 3, pos := "law.go:85", after := #[{ on := 7, ground := Ground.data }], guard := none } : Oper)) (v := .int .i64 N) rfl (by kernel_rfl) (by kernel_rfl) (by kernel_rfl) (fun _ _ _ h => h) (Or.inl ⟨by rfl, fun w0 hw0 => by have q0 := (hw0.cell (p := ⟨b, off + kk * 2 + 1, none⟩) hbl).trans k1; go_simp⟩) (by assumption) ?_
                try simp only [Act.put, List.setIfInBounds_toArray, List.set_cons_zero, List.set_cons_succ]
                refine wpAnyH_ready (rs := [9]) (by kernel_rfl) (by simp) ?_
                refine AllReadyH.cons (o := ({ dst := some 49, op := Op.call { callee := Callee.value (Operand.func 12), args := #[Operand.tmp 40, Operand.const (Value.string { data := #[64, 97, 110, 110, 58, 97] }), Operand.tmp 43, Operand.tmp 48], argTypes := #[22, 9, 9, 3] }, type := 29, pos := "law.go:85", after := #[{ on := 0, ground := Ground.data }, { on := 3, ground := Ground.data }, { on := 8, ground := Ground.data }], guard := none } : Oper)) rfl (fun KK hKK => ?_) AllReadyH.nil
                go_simp
                (with_reducible refine (up_false HM.out (by omega) N _ RB0.out 2 (by rw [HM.out.st.upE (by omega) false]; rw [if_pos (by omega)])).mono ?_)
                rintro e0 y1 ⟨A2, c2, ys, rfl, ho⟩
                have hb := ho.2.1
                have RB1 := Lib.hid (RB0.out.trans (hb.mono RB0.out.size))
                have OP := Lib.hid ho
                clear ho
                clear hb
                refine hKK.out _ _ (RB1.out) (fun hH1 => ?_)
                clear hKK KK
                try simp only [Act.put, List.setIfInBounds_toArray, List.set_cons_zero, List.set_cons_succ]
                refine wpAnyH_take (i := 10) (oi := ({ dst := some 39, op := Op.move (Operand.tmp 49), type := 29, pos := "law.go:85", after := #[{ on := 9, ground := Ground.data }], guard := none } : Oper)) (v := ?hv44) rfl (by kernel_rfl) (by kernel_rfl) (by kernel_rfl) (fun _ _ _ h => h) (Or.inl ⟨by rfl, ?hy44⟩) (by assumption) ?hr44
                case hy44 => (intro w hSw; (try dsimp only at hSw); go_simp; (try with_reducible rfl))
                try simp only [Act.put, List.setIfInBounds_toArray, List.set_cons_zero, List.set_cons_succ]
                refine wpAnyH_take (i := 11) (oi := ({ dst := some 50, op := Op.extract (Operand.tmp 39) 0, type := 22, pos := "law.go:85", after := #[{ on := 10, ground := Ground.data }], guard := none } : Oper)) (v := ?hv45) rfl (by kernel_rfl) (by kernel_rfl) (by kernel_rfl) (fun _ _ _ h => h) (Or.inl ⟨by rfl, ?hy45⟩) (by assumption) ?hr45
                case hy45 => (intro w hSw; (try dsimp only at hSw); go_simp; (try with_reducible rfl))
                try simp only [Act.put, List.setIfInBounds_toArray, List.set_cons_zero, List.set_cons_succ]
                refine wpAnyH_take (i := 12) (oi := ({ dst := some 51, op := Op.extract (Operand.tmp 39) 1, type := 25, pos := "law.go:85", after := #[{ on := 10, ground := Ground.data }, { on := 13, ground := Ground.gcOnly Departure.lateStores }], guard := none } : Oper)) (v := ?hv46) rfl (by kernel_rfl) (by kernel_rfl) (by kernel_rfl) (fun _ _ _ h => h) (Or.inl ⟨by rfl, ?hy46⟩) (by assumption) ?hr46
                case hy46 => (intro w hSw; (try dsimp only at hSw); go_simp; (try with_reducible rfl))
                try simp only [Act.put, List.setIfInBounds_toArray, List.set_cons_zero, List.set_cons_succ]
                refine wpAnyH_take (i := 13) (oi := ({ dst := some 9, op := Op.assign (Operand.tmp 50), type := 22, pos := "law.go:85", after := #[{ on := 11, ground := Ground.data }, { on := 9, ground := Ground.chain }, { on := 0, ground := Ground.phase }, { on := 1, ground := Ground.phase }, { on := 2, ground := Ground.phase }, { on := 3, ground := Ground.phase }, { on := 4, ground := Ground.phase }, { on := 5, ground := Ground.phase }, { on := 6, ground := Ground.phase }, { on := 7, ground := Ground.phase }, { on := 8, ground := Ground.phase }, { on := 9, ground := Ground.phase }, { on := 10, ground := Ground.phase }, { on := 11, ground := Ground.phase }, { on := 12, ground := Ground.textOnly Departure.lateStores }], guard := none } : Oper)) (v := ?hv47) rfl (by kernel_rfl) (by kernel_rfl) (by kernel_rfl) (fun _ _ _ h => h) (Or.inl ⟨by rfl, ?hy47⟩) (by assumption) ?hr47
                case hy47 => (intro w hSw; (try dsimp only at hSw); go_simp; (try with_reducible rfl))
                try simp only [Act.put, List.setIfInBounds_toArray, List.set_cons_zero, List.set_cons_succ]
                refine wpAnyH_take (i := 14) (oi := ({ dst := some 10, op := Op.assign (Operand.tmp 51), type := 25, pos := "law.go:85", after := #[{ on := 12, ground := Ground.data }, { on := 13, ground := Ground.chain }, { on := 0, ground := Ground.phase }, { on := 1, ground := Ground.phase }, { on := 2, ground := Ground.phase }, { on := 3, ground := Ground.phase }, { on := 4, ground := Ground.phase }, { on := 5, ground := Ground.phase }, { on := 6, ground := Ground.phase }, { on := 7, ground := Ground.phase }, { on := 8, ground := Ground.phase }, { on := 9, ground := Ground.phase }, { on := 10, ground := Ground.phase }, { on := 11, ground := Ground.phase }, { on := 12, ground := Ground.phase }, { on := 13, ground := Ground.phase }], guard := none } : Oper)) (v := ?hv48) rfl (by kernel_rfl) (by kernel_rfl) (by kernel_rfl) (fun _ _ _ h => h) (Or.inl ⟨by rfl, ?hy48⟩) (by assumption) ?hr48
                case hy48 => (intro w hSw; (try dsimp only at hSw); go_simp; (try with_reducible rfl))
                try simp only [Act.put, List.setIfInBounds_toArray, List.set_cons_zero, List.set_cons_succ]
                refine wpAnyH_done (by kernel_rfl) ?_ _
                have z1 := (RB1.out.cell (p := ⟨b, off + kk * 2 + 1, none⟩) hbl).trans k1
                have z2 := (HM.out.ups.below RB1.out).cell (i := 0) rfl
                have z3 := (HM.out.cls.below RB1.out).cell (i := 0) rfl
                rw [HU.out] at z2
                rw [HQ.out] at z3
                have z4 := (HM.out.ups.below RB1.out).free 0
                have hg1 : decide ((1 : Int) ≤ N) = false := decide_eq_false (by omega)
                go_upto_region 14 with (fail)
                go_quiet (fail)
                go_wp2
                go_meet
                case rel => exact ⟨_, _, _, _, _, _, rfl, (HM.out.below (below_drewN RB1.out _)).more⟩
          case rest =>
            obtain ⟨A3, n3, c3, xs3, up3, cl3, rfl, hM3⟩ := hcut
            have HM3 := Lib.hid hM3
            have L0 := Lib.hid (fun y hb => left_false hM3 (by omega) y hb)
            have L1 := Lib.hid (fun y hb => left_true hM3 (by omega) y hb)
            have hl0 := hM3.st.le false
            have hl1 := hM3.st.le true
            clear hM3
            obtain ⟨u0, hu0⟩ : ∃ x, up3 false = x := ⟨_, rfl⟩
            obtain ⟨q0, hq0⟩ : ∃ x, cl3 false = x := ⟨_, rfl⟩
            obtain ⟨u1, hu1⟩ : ∃ x, up3 true = x := ⟨_, rfl⟩
            obtain ⟨q1, hq1⟩ : ∃ x, cl3 true = x := ⟨_, rfl⟩
            rw [hu0, hq0] at hl0 L0
            rw [hu1, hq1] at hl1 L1
            have E0 := Lib.hid hu0
            have E1 := Lib.hid hq0
            have E2 := Lib.hid hu1
            have E3 := Lib.hid hq1
            have f1 : IntKind.i64.wrap (u0 - q0) = u0 - q0 := IntWalk.i64_in _ (by omega)
            have f2 : IntKind.i64.wrap (u1 - q1) = u1 - q1 := IntWalk.i64_in _ (by omega)
            have f3 : ((u0 - q0) != (u0 - q0)) = false := by simp
            have f4 : ((u1 - q1) != (u1 - q1)) = false := by simp
            clear hu0 hq0 hu1 hq1
            go_upto_region 26 with (fail)
            refine wp_region_held_drew (S := (fun w0 => Below wc.heap.size wc w0)) (by kernel_rfl) ((Below.refl _ _).drew) (fun hH0 => ?_)
            generalize wc.drew = y0 at hH0 ⊢
            have RB0 : Hid (Below wc.heap.size wc y0) := Lib.hid hH0
            refine wpAnyH_take (i := 0) (oi := ({ dst := some 138, op := Op.move (Operand.tmp 3), type := 22, pos := "law.go:104", after := #[], guard := none } : Oper)) (v := ?hv49) rfl (by kernel_rfl) (by kernel_rfl) (by kernel_rfl) (fun _ _ _ h => h) (Or.inl ⟨by rfl, ?hy49⟩) (by assumption) ?hr49
            case hy49 => (intro w hSw; (try dsimp only at hSw); go_simp; (try with_reducible rfl))
            try simp only [Act.put, List.setIfInBounds_toArray, List.set_cons_zero, List.set_cons_succ]
            refine wpAnyH_ready (rs := [1]) (by kernel_rfl) (by simp) ?_
            refine AllReadyH.cons (o := ({ dst := some 139, op := Op.call { callee := Callee.value (Operand.func 10), args := #[Operand.tmp 138], argTypes := #[22] }, type := 25, pos := "law.go:104", after := #[{ on := 0, ground := Ground.data }], guard := none } : Oper)) rfl (fun KK hKK => ?_) AllReadyH.nil
            go_simp
            (with_reducible refine (chk_0 HM3.out (by omega) _ RB0.out).mono ?_)
            rintro e0 y1 ⟨rfl, hb⟩
            have RB1 := Lib.hid (RB0.out.trans (hb.mono RB0.out.size))
            clear hb
            refine hKK.out _ _ (RB1.out) (fun hH1 => ?_)
            clear hKK KK
            try simp only [Act.put, List.setIfInBounds_toArray, List.set_cons_zero, List.set_cons_succ]
            refine wpAnyH_take (i := 2) (oi := ({ dst := some 140, op := Op.binOp BinOp.neq 25 (Operand.tmp 139) (Operand.const (Value.int IntKind.i64 0)) 25, type := 4, pos := "law.go:104", after := #[{ on := 1, ground := Ground.data }], guard := none } : Oper)) (v := ?hv50) rfl (by kernel_rfl) (by kernel_rfl) (by kernel_rfl) (fun _ _ _ h => h) (Or.inl ⟨by rfl, ?hy50⟩) (by assumption) ?hr50
            case hy50 => (intro w hSw; (try dsimp only at hSw); go_simp; (try with_reducible rfl))
            try simp only [Act.put, List.setIfInBounds_toArray, List.set_cons_zero, List.set_cons_succ]
            refine wpAnyH_take (i := 3) (oi := ({ dst := some 141, op := Op.move (Operand.tmp 140), type := 4, pos := "law.go:104", after := #[{ on := 2, ground := Ground.data }, { on := 1, ground := Ground.chain }], guard := none } : Oper)) (v := ?hv51) rfl (by kernel_rfl) (by kernel_rfl) (by kernel_rfl) (fun _ _ _ h => h) (Or.inl ⟨by rfl, ?hy51⟩) (by assumption) ?hr51
            case hy51 => (intro w hSw; (try dsimp only at hSw); go_simp; (try with_reducible rfl))
            try simp only [Act.put, List.setIfInBounds_toArray, List.set_cons_zero, List.set_cons_succ]
            refine wpAnyH_take (i := 4) (oi := ({ dst := some 142, op := Op.move (Operand.tmp 3), type := 22, pos := "law.go:104", after := #[{ on := 3, ground := Ground.guard }], guard := some (3, false) } : Oper)) (v := ?hv52) rfl (by kernel_rfl) (by kernel_rfl) (by kernel_rfl) (fun _ _ _ h => h) (Or.inl ⟨by rfl, ?hy52⟩) (by assumption) ?hr52
            case hy52 => (intro w hSw; (try dsimp only at hSw); go_simp; (try with_reducible rfl))
            try simp only [Act.put, List.setIfInBounds_toArray, List.set_cons_zero, List.set_cons_succ]
            refine wpAnyH_take (i := 6) (oi := ({ dst := some 144, op := Op.indexAddr 39 (Operand.tmp 4) (Operand.const (Value.int IntKind.i64 0)), type := 0, pos := "law.go:104", after := #[{ on := 3, ground := Ground.guard }], guard := some (3, false) } : Oper)) (v := ?hv53) rfl (by kernel_rfl) (by kernel_rfl) (by kernel_rfl) (fun _ _ _ h => h) (Or.inl ⟨by rfl, ?hy53⟩) (by assumption) ?hr53
            case hy53 => (intro w hSw; (try dsimp only at hSw); go_simp; (try with_reducible rfl))
            try simp only [Act.put, List.setIfInBounds_toArray, List.set_cons_zero, List.set_cons_succ]
            refine wpAnyH_take (i := 7) (oi := ({ dst := some 145, op := Op.load 3 (Operand.tmp 144), type := 3, pos := "law.go:104", after := #[{ on := 6, ground := Ground.data }, { on := 3, ground := Ground.guard }], guard := some (3, false) } : Oper)) (v := .int .i64 u0) rfl (by kernel_rfl) (by kernel_rfl) (by kernel_rfl) (fun _ _ _ h => h) (Or.inl ⟨by rfl, fun w0 hw0 => by have q9 := (HM3.out.ups.below hw0).cell (i := 0) rfl; rw [E0.out] at q9; go_simp⟩) (by assumption) ?_
            try simp only [Act.put, List.setIfInBounds_toArray, List.set_cons_zero, List.set_cons_succ]
            refine wpAnyH_take (i := 8) (oi := ({ dst := some 146, op := Op.indexAddr 39 (Operand.tmp 5) (Operand.const (Value.int IntKind.i64 0)), type := 0, pos := "law.go:104", after := #[{ on := 3, ground := Ground.guard }], guard := some (3, false) } : Oper)) (v := ?hv54) rfl (by kernel_rfl) (by kernel_rfl) (by kernel_rfl) (fun _ _ _ h => h) (Or.inl ⟨by rfl, ?hy54⟩) (by assumption) ?hr54
            case hy54 => (intro w hSw; (try dsimp only at hSw); go_simp; (try with_reducible rfl))
            try simp only [Act.put, List.setIfInBounds_toArray, List.set_cons_zero, List.set_cons_succ]
            refine wpAnyH_take (i := 9) (oi := ({ dst := some 147, op := Op.load 3 (Operand.tmp 146), type := 3, pos := "law.go:104", after := #[{ on := 8, ground := Ground.data }, { on := 3, ground := Ground.guard }], guard := some (3, false) } : Oper)) (v := .int .i64 q0) rfl (by kernel_rfl) (by kernel_rfl) (by kernel_rfl) (fun _ _ _ h => h) (Or.inl ⟨by rfl, fun w0 hw0 => by have q9 := (HM3.out.cls.below hw0).cell (i := 0) rfl; rw [E1.out] at q9; go_simp⟩) (by assumption) ?_
            try simp only [Act.put, List.setIfInBounds_toArray, List.set_cons_zero, List.set_cons_succ]
            refine wpAnyH_take (i := 10) (oi := ({ dst := some 148, op := Op.binOp BinOp.sub 3 (Operand.tmp 145) (Operand.tmp 147) 3, type := 3, pos := "law.go:104", after := #[{ on := 7, ground := Ground.data }, { on := 9, ground := Ground.data }, { on := 3, ground := Ground.guard }], guard := some (3, false) } : Oper)) (v := ?hv55) rfl (by kernel_rfl) (by kernel_rfl) (by kernel_rfl) (fun _ _ _ h => h) (Or.inl ⟨by rfl, ?hy55⟩) (by assumption) ?hr55
            case hy55 => (intro w hSw; (try dsimp only at hSw); go_simp; (try with_reducible rfl))
            try simp only [Act.put, List.setIfInBounds_toArray, List.set_cons_zero, List.set_cons_succ]
            refine wpAnyH_ready (rs := [5]) (by kernel_rfl) (by simp) ?_
            refine AllReadyH.cons (o := ({ dst := some 143, op := Op.call { callee := Callee.value (Operand.func 17), args := #[Operand.tmp 142, Operand.const (Value.string { data := #[64, 97, 110, 110, 58, 97] }), Operand.const (Value.string { data := #[112, 104, 111, 110, 101] })], argTypes := #[22, 9, 9] }, type := 3, pos := "law.go:104", after := #[{ on := 4, ground := Ground.data }, { on := 3, ground := Ground.chain }, { on := 3, ground := Ground.guard }], guard := some (3, false) } : Oper)) rfl (fun KK hKK => ?_) AllReadyH.nil
            go_simp
            (with_reducible refine (L0.out _ RB1.out).mono ?_)
            rintro e0 y2 ⟨rfl, hb⟩
            have RB2 := Lib.hid (RB1.out.trans (hb.mono RB1.out.size))
            clear hb
            refine hKK.out _ _ (RB2.out) (fun hH2 => ?_)
            clear hKK KK
            try simp only [Act.put, List.setIfInBounds_toArray, List.set_cons_zero, List.set_cons_succ]
            refine wpAnyH_take (i := 11) (oi := ({ dst := some 149, op := Op.binOp BinOp.neq 3 (Operand.tmp 143) (Operand.tmp 148) 3, type := 4, pos := "law.go:104", after := #[{ on := 5, ground := Ground.data }, { on := 10, ground := Ground.data }, { on := 3, ground := Ground.guard }], guard := some (3, false) } : Oper)) (v := ?hv56) rfl (by kernel_rfl) (by kernel_rfl) (by kernel_rfl) (fun _ _ _ h => h) (Or.inl ⟨by rfl, ?hy56⟩) (by assumption) ?hr56
            case hy56 => (intro w hSw; (try dsimp only at hSw); go_simp; (try with_reducible rfl))
            try simp only [Act.put, List.setIfInBounds_toArray, List.set_cons_zero, List.set_cons_succ]
            refine wpAnyH_take (i := 12) (oi := ({ dst := some 150, op := Op.pick (Operand.tmp 141) (Operand.const (Value.bool true)) (Operand.tmp 149), type := 4, pos := "law.go:104", after := #[{ on := 3, ground := Ground.data }, { on := 11, ground := Ground.data }], guard := none } : Oper)) (v := ?hv57) rfl (by kernel_rfl) (by kernel_rfl) (by kernel_rfl) (fun _ _ _ h => h) (Or.inl ⟨by rfl, ?hy57⟩) (by assumption) ?hr57
            case hy57 => (intro w hSw; (try dsimp only at hSw); go_simp; (try with_reducible rfl))
            try simp only [Act.put, List.setIfInBounds_toArray, List.set_cons_zero, List.set_cons_succ]
            refine wpAnyH_take (i := 13) (oi := ({ dst := some 151, op := Op.move (Operand.tmp 150), type := 4, pos := "law.go:104", after := #[{ on := 12, ground := Ground.data }, { on := 5, ground := Ground.chain }], guard := none } : Oper)) (v := ?hv58) rfl (by kernel_rfl) (by kernel_rfl) (by kernel_rfl) (fun _ _ _ h => h) (Or.inl ⟨by rfl, ?hy58⟩) (by assumption) ?hr58
            case hy58 => (intro w hSw; (try dsimp only at hSw); go_simp; (try with_reducible rfl))
            try simp only [Act.put, List.setIfInBounds_toArray, List.set_cons_zero, List.set_cons_succ]
            refine wpAnyH_take (i := 14) (oi := ({ dst := some 152, op := Op.move (Operand.tmp 3), type := 22, pos := "law.go:104", after := #[{ on := 13, ground := Ground.guard }], guard := some (13, false) } : Oper)) (v := ?hv59) rfl (by kernel_rfl) (by kernel_rfl) (by kernel_rfl) (fun _ _ _ h => h) (Or.inl ⟨by rfl, ?hy59⟩) (by assumption) ?hr59
            case hy59 => (intro w hSw; (try dsimp only at hSw); go_simp; (try with_reducible rfl))
            try simp only [Act.put, List.setIfInBounds_toArray, List.set_cons_zero, List.set_cons_succ]
            refine wpAnyH_take (i := 16) (oi := ({ dst := some 154, op := Op.indexAddr 39 (Operand.tmp 4) (Operand.const (Value.int IntKind.i64 1)), type := 0, pos := "law.go:104", after := #[{ on := 13, ground := Ground.guard }], guard := some (13, false) } : Oper)) (v := ?hv60) rfl (by kernel_rfl) (by kernel_rfl) (by kernel_rfl) (fun _ _ _ h => h) (Or.inl ⟨by rfl, ?hy60⟩) (by assumption) ?hr60
            case hy60 => (intro w hSw; (try dsimp only at hSw); go_simp; (try with_reducible rfl))
            try simp only [Act.put, List.setIfInBounds_toArray, List.set_cons_zero, List.set_cons_succ]
            refine wpAnyH_take (i := 17) (oi := ({ dst := some 155, op := Op.load 3 (Operand.tmp 154), type := 3, pos := "law.go:104", after := #[{ on := 16, ground := Ground.data }, { on := 13, ground := Ground.guard }], guard := some (13, false) } : Oper)) (v := .int .i64 u1) rfl (by kernel_rfl) (by kernel_rfl) (by kernel_rfl) (fun _ _ _ h => h) (Or.inl ⟨by rfl, fun w0 hw0 => by have q9 := (HM3.out.ups.below hw0).cell (i := 1) rfl; rw [E2.out] at q9; go_simp⟩) (by assumption) ?_
            try simp only [Act.put, List.setIfInBounds_toArray, List.set_cons_zero, List.set_cons_succ]
            refine wpAnyH_take (i := 18) (oi := ({ dst := some 156, op := Op.indexAddr 39 (Operand.tmp 5) (Operand.const (Value.int IntKind.i64 1)), type := 0, pos := "law.go:104", after := #[{ on := 13, ground := Ground.guard }], guard := some (13, false) } : Oper)) (v := ?hv61) rfl (by kernel_rfl) (by kernel_rfl) (by kernel_rfl) (fun _ _ _ h => h) (Or.inl ⟨by rfl, ?hy61⟩) (by assumption) ?hr61
            case hy61 => (intro w hSw; (try dsimp only at hSw); go_simp; (try with_reducible rfl))
            try simp only [Act.put, List.setIfInBounds_toArray, List.set_cons_zero, List.set_cons_succ]
            refine wpAnyH_take (i := 19) (oi := ({ dst := some 157, op := Op.load 3 (Operand.tmp 156), type := 3, pos := "law.go:104", after := #[{ on := 18, ground := Ground.data }, { on := 13, ground := Ground.guard }], guard := some (13, false) } : Oper)) (v := .int .i64 q1) rfl (by kernel_rfl) (by kernel_rfl) (by kernel_rfl) (fun _ _ _ h => h) (Or.inl ⟨by rfl, fun w0 hw0 => by have q9 := (HM3.out.cls.below hw0).cell (i := 1) rfl; rw [E3.out] at q9; go_simp⟩) (by assumption) ?_
            try simp only [Act.put, List.setIfInBounds_toArray, List.set_cons_zero, List.set_cons_succ]
            refine wpAnyH_take (i := 20) (oi := ({ dst := some 158, op := Op.binOp BinOp.sub 3 (Operand.tmp 155) (Operand.tmp 157) 3, type := 3, pos := "law.go:104", after := #[{ on := 17, ground := Ground.data }, { on := 19, ground := Ground.data }, { on := 13, ground := Ground.guard }], guard := some (13, false) } : Oper)) (v := ?hv62) rfl (by kernel_rfl) (by kernel_rfl) (by kernel_rfl) (fun _ _ _ h => h) (Or.inl ⟨by rfl, ?hy62⟩) (by assumption) ?hr62
            case hy62 => (intro w hSw; (try dsimp only at hSw); go_simp; (try with_reducible rfl))
            try simp only [Act.put, List.setIfInBounds_toArray, List.set_cons_zero, List.set_cons_succ]
            refine wpAnyH_ready (rs := [15]) (by kernel_rfl) (by simp) ?_
            refine AllReadyH.cons (o := ({ dst := some 153, op := Op.call { callee := Callee.value (Operand.func 17), args := #[Operand.tmp 152, Operand.const (Value.string { data := #[64, 97, 110, 110, 58, 97] }), Operand.const (Value.string { data := #[100, 101, 115, 107] })], argTypes := #[22, 9, 9] }, type := 3, pos := "law.go:104", after := #[{ on := 14, ground := Ground.data }, { on := 13, ground := Ground.chain }, { on := 13, ground := Ground.guard }], guard := some (13, false) } : Oper)) rfl (fun KK hKK => ?_) AllReadyH.nil
            go_simp
            (with_reducible refine (L1.out _ RB2.out).mono ?_)
            rintro e0 y3 ⟨rfl, hb⟩
            have RB3 := Lib.hid (RB2.out.trans (hb.mono RB2.out.size))
            clear hb
            refine hKK.out _ _ (RB3.out) (fun hH3 => ?_)
            clear hKK KK
            try simp only [Act.put, List.setIfInBounds_toArray, List.set_cons_zero, List.set_cons_succ]
            refine wpAnyH_take (i := 21) (oi := ({ dst := some 159, op := Op.binOp BinOp.neq 3 (Operand.tmp 153) (Operand.tmp 158) 3, type := 4, pos := "law.go:104", after := #[{ on := 15, ground := Ground.data }, { on := 20, ground := Ground.data }, { on := 13, ground := Ground.guard }], guard := some (13, false) } : Oper)) (v := ?hv63) rfl (by kernel_rfl) (by kernel_rfl) (by kernel_rfl) (fun _ _ _ h => h) (Or.inl ⟨by rfl, ?hy63⟩) (by assumption) ?hr63
            case hy63 => (intro w hSw; (try dsimp only at hSw); go_simp; (try with_reducible rfl))
            try simp only [Act.put, List.setIfInBounds_toArray, List.set_cons_zero, List.set_cons_succ]
            refine wpAnyH_take (i := 22) (oi := ({ dst := some 160, op := Op.pick (Operand.tmp 151) (Operand.const (Value.bool true)) (Operand.tmp 159), type := 4, pos := "law.go:104", after := #[{ on := 13, ground := Ground.data }, { on := 21, ground := Ground.data }], guard := none } : Oper)) (v := ?hv64) rfl (by kernel_rfl) (by kernel_rfl) (by kernel_rfl) (fun _ _ _ h => h) (Or.inl ⟨by rfl, ?hy64⟩) (by assumption) ?hr64
            case hy64 => (intro w hSw; (try dsimp only at hSw); go_simp; (try with_reducible rfl))
            try simp only [Act.put, List.setIfInBounds_toArray, List.set_cons_zero, List.set_cons_succ]
            refine wpAnyH_done (by kernel_rfl) ?_ _
            go_wp2
            go_roundg (m - (kk + 1))
            case measure => omega
            case rel => exact ⟨kk + 1, by omega, by omega, by go_num, Lib.hid ⟨_, _, _, _, _, _, rfl, HM3.out.below (by first | exact RB3.out | exact below_drewN RB3.out _)⟩⟩
        · have hle := HM.out.st.le true
          obtain ⟨u, hu⟩ : ∃ u, up true = u := ⟨_, rfl⟩
          obtain ⟨q, hq⟩ : ∃ q, cl true = q := ⟨_, rfl⟩
          rw [hu, hq] at hle
          have HU := Lib.hid hu
          have HQ := Lib.hid hq
          have e1 : IntKind.i64.wrap (u - q) = u - q := IntWalk.i64_in _ (by omega)
          clear hu hq
          go_upto_if 38 with (fail)
          go_cut [3, 9, 10, 11, 12, 13, 14] from 22 to 160 (fun s3 _ _ _ _ _ _ wx => MemX w.heap.size w (kk + 1) s3 wx)
          case first =>
            by_cases hN : N = 0
            · have hNb : (N != 0) = false := by simpa using hN
              have e4 : IntKind.i64.wrap (q + 1) = q + 1 := IntWalk.i64_in _ (by omega)
              by_cases h1 : q < u
              · skip
                have z0 := HM.out.nms.cell (i := 1) rfl
                go_upto_region 21 with (go_at_call 15; (with_reducible refine (cl_true HM.out (by omega) _ (Below.refl _ _) 0 q (by rw [HM.out.st.clE true, HU.out, HQ.out]; exact if_pos h1) (by rw [HM.out.st.clK true (by rw [HU.out, HQ.out]; exact h1)]; exact HQ.out)).mono ?_); rintro e y1 ⟨A2, c2, ys, rfl, ho⟩; have OP := Lib.hid ho; have RB1 := Lib.hid ho.2.1; clear ho)
                have z2 := (HM.out.ups.below RB1.out).cell (i := 1) rfl
                have z3 := (HM.out.cls.below RB1.out).cell (i := 1) rfl
                rw [HU.out] at z2
                rw [HQ.out] at z3
                have z4 := (HM.out.cls.below RB1.out).free 1
                have hg1 : decide (q < u) = true := decide_eq_true (by omega)
                have hq0 : (q != q) = false := by simp
                go_quiet (fail)
                go_wp2
                go_meet
                case rel =>
                  have h9 := HM.out.claim (o := true) (by omega) (by rw [HU.out, HQ.out]; exact h1) (OP.out.drewN nq)
                  rw [HQ.out] at h9
                  exact ⟨_, _, _, _, _, _, rfl, h9⟩
              · skip
                have z0 := HM.out.nms.cell (i := 1) rfl
                have HE9 := Lib.hid (by rw [HM.out.st.clE true, HU.out, HQ.out]; exact if_neg h1 : clE xs ann (nmD true) = 5)
                go_upto_region 21 with (go_at_call 15; (with_reducible refine (cl_true HM.out (by omega) _ (Below.refl _ _) 5 0 (by rw [HM.out.st.clE true, HU.out, HQ.out]; exact if_neg h1) (by unfold clK; rw [show clE xs ann (nmD true) = 5 from HE9.out, if_neg (by decide)])).mono ?_); rintro e y1 ⟨A2, c2, ys, rfl, ho⟩; have OP := Lib.hid ho; have RB1 := Lib.hid ho.2.1; clear ho)
                have z2 := (HM.out.ups.below RB1.out).cell (i := 1) rfl
                have z3 := (HM.out.cls.below RB1.out).cell (i := 1) rfl
                rw [HU.out] at z2
                rw [HQ.out] at z3
                have z4 := (HM.out.cls.below RB1.out).free 1
                have hg1 : decide (q < u) = false := decide_eq_false (by omega)
                have hq0 : (q != q) = false := by simp
                go_quiet (fail)
                go_wp2
                go_meet
                case rel => exact ⟨_, _, _, _, _, _, rfl, (HM.out.below (below_drewN RB1.out _)).more⟩
            · have hNb : (N != 0) = true := by simpa using hN
              by_cases h1 : 1 ≤ N
              · by_cases h2 : N ≤ 100
                · have e2 : IntKind.i64.wrap (200 - N) = 200 - N := IntWalk.i64_in _ (by omega)
                  have e3 : IntKind.i64.wrap (u + N) = u + N := IntWalk.i64_in _ (by omega)
                  by_cases h3 : u - q ≤ 200 - N
                  · skip
                    go_upto_region 13 with (fail)
                    refine wp_region_held_drew (S := (fun w0 => Below wr.heap.size wr w0)) (by kernel_rfl) ((Below.refl _ _).drew) (fun hH0 => ?_)
                    generalize wr.drew = y0 at hH0 ⊢
                    have RB0 : Hid (Below wr.heap.size wr y0) := Lib.hid hH0
                    refine wpAnyH_take (i := 0) (oi := ({ dst := some 40, op := Op.move (Operand.tmp 3), type := 22, pos := "law.go:85", after := #[], guard := none } : Oper)) (v := ?hv65) rfl (by kernel_rfl) (by kernel_rfl) (by kernel_rfl) (fun _ _ _ h => h) (Or.inl ⟨by rfl, ?hy65⟩) (by assumption) ?hr65
                    case hy65 => (intro w hSw; (try dsimp only at hSw); go_simp; (try with_reducible rfl))
                    try simp only [Act.put, List.setIfInBounds_toArray, List.set_cons_zero, List.set_cons_succ]
                    refine wpAnyH_take (i := 1) (oi := ({ dst := some 41, op := Op.move (Operand.tmp 8), type := 3, pos := "law.go:85", after := #[], guard := none } : Oper)) (v := ?hv66) rfl (by kernel_rfl) (by kernel_rfl) (by kernel_rfl) (fun _ _ _ h => h) (Or.inl ⟨by rfl, ?hy66⟩) (by assumption) ?hr66
                    case hy66 => (intro w hSw; (try dsimp only at hSw); go_simp; (try with_reducible rfl))
                    try simp only [Act.put, List.setIfInBounds_toArray, List.set_cons_zero, List.set_cons_succ]
                    refine wpAnyH_take (i := 2) (oi := ({ dst := some 42, op := Op.indexAddr 40 (Operand.tmp 6) (Operand.tmp 41), type := 0, pos := "law.go:85", after := #[{ on := 1, ground := Ground.data }], guard := none } : Oper)) (v := ?hv67) rfl (by kernel_rfl) (by kernel_rfl) (by kernel_rfl) (fun _ _ _ h => h) (Or.inl ⟨by rfl, ?hy67⟩) (by assumption) ?hr67
                    case hy67 => (intro w hSw; (try dsimp only at hSw); go_simp; (try with_reducible rfl))
                    try simp only [Act.put, List.setIfInBounds_toArray, List.set_cons_zero, List.set_cons_succ]
                    refine wpAnyH_take (i := 3) (oi := ({ dst := some 43, op := Op.load 9 (Operand.tmp 42), type := 9, pos := "law.go:85", after := #[{ on := 2, ground := Ground.data }], guard := none } : Oper)) (v := .string ⟨#[100, 101, 115, 107]⟩) rfl (by kernel_rfl) (by kernel_rfl) (by kernel_rfl) (fun _ _ _ h => h) (Or.inl ⟨by rfl, fun w0 hw0 => by have q0 := (HM.out.nms.below hw0).cell (i := 1) rfl; go_simp⟩) (by assumption) ?_
                    try simp only [Act.put, List.setIfInBounds_toArray, List.set_cons_zero, List.set_cons_succ]
                    refine wpAnyH_take (i := 4) (oi := ({ dst := some 44, op := Op.move (Operand.tmp 0), type := 38, pos := "law.go:85", after := #[], guard := none } : Oper)) (v := ?hv68) rfl (by kernel_rfl) (by kernel_rfl) (by kernel_rfl) (fun _ _ _ h => h) (Or.inl ⟨by rfl, ?hy68⟩) (by assumption) ?hr68
                    case hy68 => (intro w hSw; (try dsimp only at hSw); go_simp; (try with_reducible rfl))
                    try simp only [Act.put, List.setIfInBounds_toArray, List.set_cons_zero, List.set_cons_succ]
                    refine wpAnyH_take (i := 5) (oi := ({ dst := some 45, op := Op.move (Operand.tmp 7), type := 3, pos := "law.go:85", after := #[], guard := none } : Oper)) (v := ?hv69) rfl (by kernel_rfl) (by kernel_rfl) (by kernel_rfl) (fun _ _ _ h => h) (Or.inl ⟨by rfl, ?hy69⟩) (by assumption) ?hr69
                    case hy69 => (intro w hSw; (try dsimp only at hSw); go_simp; (try with_reducible rfl))
                    try simp only [Act.put, List.setIfInBounds_toArray, List.set_cons_zero, List.set_cons_succ]
                    refine wpAnyH_take (i := 6) (oi := ({ dst := some 46, op := Op.indexAddr 38 (Operand.tmp 44) (Operand.tmp 45), type := 0, pos := "law.go:85", after := #[{ on := 4, ground := Ground.data }, { on := 5, ground := Ground.data }], guard := none } : Oper)) (v := ?hv70) rfl (by kernel_rfl) (by kernel_rfl) (by kernel_rfl) (fun _ _ _ h => h) (Or.inl ⟨by rfl, ?hy70⟩) (by assumption) ?hr70
                    case hy70 => (intro w hSw; (try dsimp only at hSw); go_simp; (try with_reducible rfl))
                    try simp only [Act.put, List.setIfInBounds_toArray, List.set_cons_zero, List.set_cons_succ]
                    refine wpAnyH_take (i := 7) (oi := ({ dst := some 47, op := Op.fieldAddr 42 (Operand.tmp 46) 1, type := 0, pos := "law.go:85", after := #[{ on := 6, ground := Ground.data }], guard := none } : Oper)) (v := ?hv71) rfl (by kernel_rfl) (by kernel_rfl) (by kernel_rfl) (fun _ _ _ h => h) (Or.inl ⟨by rfl, ?hy71⟩) (by assumption) ?hr71
                    case hy71 => (intro w hSw; (try dsimp only at hSw); go_simp; (try with_reducible rfl))
                    try simp only [Act.put, List.setIfInBounds_toArray, List.set_cons_zero, List.set_cons_succ]
                    refine wpAnyH_take (i := 8) (oi := ({ dst := some 48, op := Op.load 3 (Operand.tmp 47), type := 3, pos := "law.go:85", after := #[{ on := 7, ground := Ground.data }], guard := none } : Oper)) (v := .int .i64 N) rfl (by kernel_rfl) (by kernel_rfl) (by kernel_rfl) (fun _ _ _ h => h) (Or.inl ⟨by rfl, fun w0 hw0 => by have q0 := (hw0.cell (p := ⟨b, off + kk * 2 + 1, none⟩) hbl).trans k1; go_simp⟩) (by assumption) ?_
                    try simp only [Act.put, List.setIfInBounds_toArray, List.set_cons_zero, List.set_cons_succ]
                    refine wpAnyH_ready (rs := [9]) (by kernel_rfl) (by simp) ?_
                    refine AllReadyH.cons (o := ({ dst := some 49, op := Op.call { callee := Callee.value (Operand.func 12), args := #[Operand.tmp 40, Operand.const (Value.string { data := #[64, 97, 110, 110, 58, 97] }), Operand.tmp 43, Operand.tmp 48], argTypes := #[22, 9, 9, 3] }, type := 29, pos := "law.go:85", after := #[{ on := 0, ground := Ground.data }, { on := 3, ground := Ground.data }, { on := 8, ground := Ground.data }], guard := none } : Oper)) rfl (fun KK hKK => ?_) AllReadyH.nil
                    go_simp
                    (with_reducible refine (up_true HM.out (by omega) N _ RB0.out 0 (by rw [HM.out.st.upE (by omega) true]; rw [if_neg (by omega), if_neg (by have := HU.out; have := HQ.out; omega)])).mono ?_)
                    rintro e0 y1 ⟨A2, c2, ys, rfl, ho⟩
                    have hb := ho.2.1
                    have RB1 := Lib.hid (RB0.out.trans (hb.mono RB0.out.size))
                    have OP := Lib.hid ho
                    clear ho
                    clear hb
                    refine hKK.out _ _ (RB1.out) (fun hH1 => ?_)
                    clear hKK KK
                    try simp only [Act.put, List.setIfInBounds_toArray, List.set_cons_zero, List.set_cons_succ]
                    refine wpAnyH_take (i := 10) (oi := ({ dst := some 39, op := Op.move (Operand.tmp 49), type := 29, pos := "law.go:85", after := #[{ on := 9, ground := Ground.data }], guard := none } : Oper)) (v := ?hv72) rfl (by kernel_rfl) (by kernel_rfl) (by kernel_rfl) (fun _ _ _ h => h) (Or.inl ⟨by rfl, ?hy72⟩) (by assumption) ?hr72
                    case hy72 => (intro w hSw; (try dsimp only at hSw); go_simp; (try with_reducible rfl))
                    try simp only [Act.put, List.setIfInBounds_toArray, List.set_cons_zero, List.set_cons_succ]
                    refine wpAnyH_take (i := 11) (oi := ({ dst := some 50, op := Op.extract (Operand.tmp 39) 0, type := 22, pos := "law.go:85", after := #[{ on := 10, ground := Ground.data }], guard := none } : Oper)) (v := ?hv73) rfl (by kernel_rfl) (by kernel_rfl) (by kernel_rfl) (fun _ _ _ h => h) (Or.inl ⟨by rfl, ?hy73⟩) (by assumption) ?hr73
                    case hy73 => (intro w hSw; (try dsimp only at hSw); go_simp; (try with_reducible rfl))
                    try simp only [Act.put, List.setIfInBounds_toArray, List.set_cons_zero, List.set_cons_succ]
                    refine wpAnyH_take (i := 12) (oi := ({ dst := some 51, op := Op.extract (Operand.tmp 39) 1, type := 25, pos := "law.go:85", after := #[{ on := 10, ground := Ground.data }, { on := 13, ground := Ground.gcOnly Departure.lateStores }], guard := none } : Oper)) (v := ?hv74) rfl (by kernel_rfl) (by kernel_rfl) (by kernel_rfl) (fun _ _ _ h => h) (Or.inl ⟨by rfl, ?hy74⟩) (by assumption) ?hr74
                    case hy74 => (intro w hSw; (try dsimp only at hSw); go_simp; (try with_reducible rfl))
                    try simp only [Act.put, List.setIfInBounds_toArray, List.set_cons_zero, List.set_cons_succ]
                    refine wpAnyH_take (i := 13) (oi := ({ dst := some 9, op := Op.assign (Operand.tmp 50), type := 22, pos := "law.go:85", after := #[{ on := 11, ground := Ground.data }, { on := 9, ground := Ground.chain }, { on := 0, ground := Ground.phase }, { on := 1, ground := Ground.phase }, { on := 2, ground := Ground.phase }, { on := 3, ground := Ground.phase }, { on := 4, ground := Ground.phase }, { on := 5, ground := Ground.phase }, { on := 6, ground := Ground.phase }, { on := 7, ground := Ground.phase }, { on := 8, ground := Ground.phase }, { on := 9, ground := Ground.phase }, { on := 10, ground := Ground.phase }, { on := 11, ground := Ground.phase }, { on := 12, ground := Ground.textOnly Departure.lateStores }], guard := none } : Oper)) (v := ?hv75) rfl (by kernel_rfl) (by kernel_rfl) (by kernel_rfl) (fun _ _ _ h => h) (Or.inl ⟨by rfl, ?hy75⟩) (by assumption) ?hr75
                    case hy75 => (intro w hSw; (try dsimp only at hSw); go_simp; (try with_reducible rfl))
                    try simp only [Act.put, List.setIfInBounds_toArray, List.set_cons_zero, List.set_cons_succ]
                    refine wpAnyH_take (i := 14) (oi := ({ dst := some 10, op := Op.assign (Operand.tmp 51), type := 25, pos := "law.go:85", after := #[{ on := 12, ground := Ground.data }, { on := 13, ground := Ground.chain }, { on := 0, ground := Ground.phase }, { on := 1, ground := Ground.phase }, { on := 2, ground := Ground.phase }, { on := 3, ground := Ground.phase }, { on := 4, ground := Ground.phase }, { on := 5, ground := Ground.phase }, { on := 6, ground := Ground.phase }, { on := 7, ground := Ground.phase }, { on := 8, ground := Ground.phase }, { on := 9, ground := Ground.phase }, { on := 10, ground := Ground.phase }, { on := 11, ground := Ground.phase }, { on := 12, ground := Ground.phase }, { on := 13, ground := Ground.phase }], guard := none } : Oper)) (v := ?hv76) rfl (by kernel_rfl) (by kernel_rfl) (by kernel_rfl) (fun _ _ _ h => h) (Or.inl ⟨by rfl, ?hy76⟩) (by assumption) ?hr76
                    case hy76 => (intro w hSw; (try dsimp only at hSw); go_simp; (try with_reducible rfl))
                    try simp only [Act.put, List.setIfInBounds_toArray, List.set_cons_zero, List.set_cons_succ]
                    refine wpAnyH_done (by kernel_rfl) ?_ _
                    have z1 := (RB1.out.cell (p := ⟨b, off + kk * 2 + 1, none⟩) hbl).trans k1
                    have z2 := (HM.out.ups.below RB1.out).cell (i := 1) rfl
                    have z3 := (HM.out.cls.below RB1.out).cell (i := 1) rfl
                    rw [HU.out] at z2
                    rw [HQ.out] at z3
                    have z4 := (HM.out.ups.below RB1.out).free 1
                    have hg1 : decide ((1 : Int) ≤ N) = true := decide_eq_true h1
                    have hg2 : decide (N ≤ (100 : Int)) = true := decide_eq_true h2
                    have hg3 : decide (u - q ≤ 200 - N) = true := decide_eq_true h3
                    go_upto_region 14 with (fail)
                    go_quiet (fail)
                    go_upto_region 19 with (fail)
                    go_region
                    go_wp2
                    go_meet
                    case rel =>
                      have h9 := (HM.out.below RB0.out).upload (o := true) (by omega) h1 h2 (by rw [HU.out, HQ.out]; exact h3) (OP.out.drewN (nq + 1))
                      rw [HU.out] at h9
                      exact ⟨_, _, _, _, _, _, rfl, h9⟩
                  · skip
                    go_upto_region 13 with (fail)
                    refine wp_region_held_drew (S := (fun w0 => Below wr.heap.size wr w0)) (by kernel_rfl) ((Below.refl _ _).drew) (fun hH0 => ?_)
                    generalize wr.drew = y0 at hH0 ⊢
                    have RB0 : Hid (Below wr.heap.size wr y0) := Lib.hid hH0
                    refine wpAnyH_take (i := 0) (oi := ({ dst := some 40, op := Op.move (Operand.tmp 3), type := 22, pos := "law.go:85", after := #[], guard := none } : Oper)) (v := ?hv77) rfl (by kernel_rfl) (by kernel_rfl) (by kernel_rfl) (fun _ _ _ h => h) (Or.inl ⟨by rfl, ?hy77⟩) (by assumption) ?hr77
                    case hy77 => (intro w hSw; (try dsimp only at hSw); go_simp; (try with_reducible rfl))
                    try simp only [Act.put, List.setIfInBounds_toArray, List.set_cons_zero, List.set_cons_succ]
                    refine wpAnyH_take (i := 1) (oi := ({ dst := some 41, op := Op.move (Operand.tmp 8), type := 3, pos := "law.go:85", after := #[], guard := none } : Oper)) (v := ?hv78) rfl (by kernel_rfl) (by kernel_rfl) (by kernel_rfl) (fun _ _ _ h => h) (Or.inl ⟨by rfl, ?hy78⟩) (by assumption) ?hr78
                    case hy78 => (intro w hSw; (try dsimp only at hSw); go_simp; (try with_reducible rfl))
                    try simp only [Act.put, List.setIfInBounds_toArray, List.set_cons_zero, List.set_cons_succ]
                    refine wpAnyH_take (i := 2) (oi := ({ dst := some 42, op := Op.indexAddr 40 (Operand.tmp 6) (Operand.tmp 41), type := 0, pos := "law.go:85", after := #[{ on := 1, ground := Ground.data }], guard := none } : Oper)) (v := ?hv79) rfl (by kernel_rfl) (by kernel_rfl) (by kernel_rfl) (fun _ _ _ h => h) (Or.inl ⟨by rfl, ?hy79⟩) (by assumption) ?hr79
                    case hy79 => (intro w hSw; (try dsimp only at hSw); go_simp; (try with_reducible rfl))
                    try simp only [Act.put, List.setIfInBounds_toArray, List.set_cons_zero, List.set_cons_succ]
                    refine wpAnyH_take (i := 3) (oi := ({ dst := some 43, op := Op.load 9 (Operand.tmp 42), type := 9, pos := "law.go:85", after := #[{ on := 2, ground := Ground.data }], guard := none } : Oper)) (v := .string ⟨#[100, 101, 115, 107]⟩) rfl (by kernel_rfl) (by kernel_rfl) (by kernel_rfl) (fun _ _ _ h => h) (Or.inl ⟨by rfl, fun w0 hw0 => by have q0 := (HM.out.nms.below hw0).cell (i := 1) rfl; go_simp⟩) (by assumption) ?_
                    try simp only [Act.put, List.setIfInBounds_toArray, List.set_cons_zero, List.set_cons_succ]
                    refine wpAnyH_take (i := 4) (oi := ({ dst := some 44, op := Op.move (Operand.tmp 0), type := 38, pos := "law.go:85", after := #[], guard := none } : Oper)) (v := ?hv80) rfl (by kernel_rfl) (by kernel_rfl) (by kernel_rfl) (fun _ _ _ h => h) (Or.inl ⟨by rfl, ?hy80⟩) (by assumption) ?hr80
                    case hy80 => (intro w hSw; (try dsimp only at hSw); go_simp; (try with_reducible rfl))
                    try simp only [Act.put, List.setIfInBounds_toArray, List.set_cons_zero, List.set_cons_succ]
                    refine wpAnyH_take (i := 5) (oi := ({ dst := some 45, op := Op.move (Operand.tmp 7), type := 3, pos := "law.go:85", after := #[], guard := none } : Oper)) (v := ?hv81) rfl (by kernel_rfl) (by kernel_rfl) (by kernel_rfl) (fun _ _ _ h => h) (Or.inl ⟨by rfl, ?hy81⟩) (by assumption) ?hr81
                    case hy81 => (intro w hSw; (try dsimp only at hSw); go_simp; (try with_reducible rfl))
                    try simp only [Act.put, List.setIfInBounds_toArray, List.set_cons_zero, List.set_cons_succ]
                    refine wpAnyH_take (i := 6) (oi := ({ dst := some 46, op := Op.indexAddr 38 (Operand.tmp 44) (Operand.tmp 45), type := 0, pos := "law.go:85", after := #[{ on := 4, ground := Ground.data }, { on := 5, ground := Ground.data }], guard := none } : Oper)) (v := ?hv82) rfl (by kernel_rfl) (by kernel_rfl) (by kernel_rfl) (fun _ _ _ h => h) (Or.inl ⟨by rfl, ?hy82⟩) (by assumption) ?hr82
                    case hy82 => (intro w hSw; (try dsimp only at hSw); go_simp; (try with_reducible rfl))
                    try simp only [Act.put, List.setIfInBounds_toArray, List.set_cons_zero, List.set_cons_succ]
                    refine wpAnyH_take (i := 7) (oi := ({ dst := some 47, op := Op.fieldAddr 42 (Operand.tmp 46) 1, type := 0, pos := "law.go:85", after := #[{ on := 6, ground := Ground.data }], guard := none } : Oper)) (v := ?hv83) rfl (by kernel_rfl) (by kernel_rfl) (by kernel_rfl) (fun _ _ _ h => h) (Or.inl ⟨by rfl, ?hy83⟩) (by assumption) ?hr83
                    case hy83 => (intro w hSw; (try dsimp only at hSw); go_simp; (try with_reducible rfl))
                    try simp only [Act.put, List.setIfInBounds_toArray, List.set_cons_zero, List.set_cons_succ]
                    refine wpAnyH_take (i := 8) (oi := ({ dst := some 48, op := Op.load 3 (Operand.tmp 47), type := 3, pos := "law.go:85", after := #[{ on := 7, ground := Ground.data }], guard := none } : Oper)) (v := .int .i64 N) rfl (by kernel_rfl) (by kernel_rfl) (by kernel_rfl) (fun _ _ _ h => h) (Or.inl ⟨by rfl, fun w0 hw0 => by have q0 := (hw0.cell (p := ⟨b, off + kk * 2 + 1, none⟩) hbl).trans k1; go_simp⟩) (by assumption) ?_
                    try simp only [Act.put, List.setIfInBounds_toArray, List.set_cons_zero, List.set_cons_succ]
                    refine wpAnyH_ready (rs := [9]) (by kernel_rfl) (by simp) ?_
                    refine AllReadyH.cons (o := ({ dst := some 49, op := Op.call { callee := Callee.value (Operand.func 12), args := #[Operand.tmp 40, Operand.const (Value.string { data := #[64, 97, 110, 110, 58, 97] }), Operand.tmp 43, Operand.tmp 48], argTypes := #[22, 9, 9, 3] }, type := 29, pos := "law.go:85", after := #[{ on := 0, ground := Ground.data }, { on := 3, ground := Ground.data }, { on := 8, ground := Ground.data }], guard := none } : Oper)) rfl (fun KK hKK => ?_) AllReadyH.nil
                    go_simp
                    (with_reducible refine (up_true HM.out (by omega) N _ RB0.out 29 (by rw [HM.out.st.upE (by omega) true]; rw [if_neg (by omega), if_pos (by have := HU.out; have := HQ.out; omega)])).mono ?_)
                    rintro e0 y1 ⟨A2, c2, ys, rfl, ho⟩
                    have hb := ho.2.1
                    have RB1 := Lib.hid (RB0.out.trans (hb.mono RB0.out.size))
                    have OP := Lib.hid ho
                    clear ho
                    clear hb
                    refine hKK.out _ _ (RB1.out) (fun hH1 => ?_)
                    clear hKK KK
                    try simp only [Act.put, List.setIfInBounds_toArray, List.set_cons_zero, List.set_cons_succ]
                    refine wpAnyH_take (i := 10) (oi := ({ dst := some 39, op := Op.move (Operand.tmp 49), type := 29, pos := "law.go:85", after := #[{ on := 9, ground := Ground.data }], guard := none } : Oper)) (v := ?hv84) rfl (by kernel_rfl) (by kernel_rfl) (by kernel_rfl) (fun _ _ _ h => h) (Or.inl ⟨by rfl, ?hy84⟩) (by assumption) ?hr84
                    case hy84 => (intro w hSw; (try dsimp only at hSw); go_simp; (try with_reducible rfl))
                    try simp only [Act.put, List.setIfInBounds_toArray, List.set_cons_zero, List.set_cons_succ]
                    refine wpAnyH_take (i := 11) (oi := ({ dst := some 50, op := Op.extract (Operand.tmp 39) 0, type := 22, pos := "law.go:85", after := #[{ on := 10, ground := Ground.data }], guard := none } : Oper)) (v := ?hv85) rfl (by kernel_rfl) (by kernel_rfl) (by kernel_rfl) (fun _ _ _ h => h) (Or.inl ⟨by rfl, ?hy85⟩) (by assumption) ?hr85
                    case hy85 => (intro w hSw; (try dsimp only at hSw); go_simp; (try with_reducible rfl))
                    try simp only [Act.put, List.setIfInBounds_toArray, List.set_cons_zero, List.set_cons_succ]
                    refine wpAnyH_take (i := 12) (oi := ({ dst := some 51, op := Op.extract (Operand.tmp 39) 1, type := 25, pos := "law.go:85", after := #[{ on := 10, ground := Ground.data }, { on := 13, ground := Ground.gcOnly Departure.lateStores }], guard := none } : Oper)) (v := ?hv86) rfl (by kernel_rfl) (by kernel_rfl) (by kernel_rfl) (fun _ _ _ h => h) (Or.inl ⟨by rfl, ?hy86⟩) (by assumption) ?hr86
                    case hy86 => (intro w hSw; (try dsimp only at hSw); go_simp; (try with_reducible rfl))
                    try simp only [Act.put, List.setIfInBounds_toArray, List.set_cons_zero, List.set_cons_succ]
                    refine wpAnyH_take (i := 13) (oi := ({ dst := some 9, op := Op.assign (Operand.tmp 50), type := 22, pos := "law.go:85", after := #[{ on := 11, ground := Ground.data }, { on := 9, ground := Ground.chain }, { on := 0, ground := Ground.phase }, { on := 1, ground := Ground.phase }, { on := 2, ground := Ground.phase }, { on := 3, ground := Ground.phase }, { on := 4, ground := Ground.phase }, { on := 5, ground := Ground.phase }, { on := 6, ground := Ground.phase }, { on := 7, ground := Ground.phase }, { on := 8, ground := Ground.phase }, { on := 9, ground := Ground.phase }, { on := 10, ground := Ground.phase }, { on := 11, ground := Ground.phase }, { on := 12, ground := Ground.textOnly Departure.lateStores }], guard := none } : Oper)) (v := ?hv87) rfl (by kernel_rfl) (by kernel_rfl) (by kernel_rfl) (fun _ _ _ h => h) (Or.inl ⟨by rfl, ?hy87⟩) (by assumption) ?hr87
                    case hy87 => (intro w hSw; (try dsimp only at hSw); go_simp; (try with_reducible rfl))
                    try simp only [Act.put, List.setIfInBounds_toArray, List.set_cons_zero, List.set_cons_succ]
                    refine wpAnyH_take (i := 14) (oi := ({ dst := some 10, op := Op.assign (Operand.tmp 51), type := 25, pos := "law.go:85", after := #[{ on := 12, ground := Ground.data }, { on := 13, ground := Ground.chain }, { on := 0, ground := Ground.phase }, { on := 1, ground := Ground.phase }, { on := 2, ground := Ground.phase }, { on := 3, ground := Ground.phase }, { on := 4, ground := Ground.phase }, { on := 5, ground := Ground.phase }, { on := 6, ground := Ground.phase }, { on := 7, ground := Ground.phase }, { on := 8, ground := Ground.phase }, { on := 9, ground := Ground.phase }, { on := 10, ground := Ground.phase }, { on := 11, ground := Ground.phase }, { on := 12, ground := Ground.phase }, { on := 13, ground := Ground.phase }], guard := none } : Oper)) (v := ?hv88) rfl (by kernel_rfl) (by kernel_rfl) (by kernel_rfl) (fun _ _ _ h => h) (Or.inl ⟨by rfl, ?hy88⟩) (by assumption) ?hr88
                    case hy88 => (intro w hSw; (try dsimp only at hSw); go_simp; (try with_reducible rfl))
                    try simp only [Act.put, List.setIfInBounds_toArray, List.set_cons_zero, List.set_cons_succ]
                    refine wpAnyH_done (by kernel_rfl) ?_ _
                    have z1 := (RB1.out.cell (p := ⟨b, off + kk * 2 + 1, none⟩) hbl).trans k1
                    have z2 := (HM.out.ups.below RB1.out).cell (i := 1) rfl
                    have z3 := (HM.out.cls.below RB1.out).cell (i := 1) rfl
                    rw [HU.out] at z2
                    rw [HQ.out] at z3
                    have z4 := (HM.out.ups.below RB1.out).free 1
                    have hg1 : decide ((1 : Int) ≤ N) = true := decide_eq_true h1
                    have hg2 : decide (N ≤ (100 : Int)) = true := decide_eq_true h2
                    have hg3 : decide (u - q ≤ 200 - N) = false := decide_eq_false (by omega)
                    go_upto_region 14 with (fail)
                    go_quiet (fail)
                    go_wp2
                    go_meet
                    case rel => exact ⟨_, _, _, _, _, _, rfl, (HM.out.below (below_drewN RB1.out _)).more⟩
                · skip
                  go_upto_region 13 with (fail)
                  refine wp_region_held_drew (S := (fun w0 => Below wr.heap.size wr w0)) (by kernel_rfl) ((Below.refl _ _).drew) (fun hH0 => ?_)
                  generalize wr.drew = y0 at hH0 ⊢
                  have RB0 : Hid (Below wr.heap.size wr y0) := Lib.hid hH0
                  refine wpAnyH_take (i := 0) (oi := ({ dst := some 40, op := Op.move (Operand.tmp 3), type := 22, pos := "law.go:85", after := #[], guard := none } : Oper)) (v := ?hv89) rfl (by kernel_rfl) (by kernel_rfl) (by kernel_rfl) (fun _ _ _ h => h) (Or.inl ⟨by rfl, ?hy89⟩) (by assumption) ?hr89
                  case hy89 => (intro w hSw; (try dsimp only at hSw); go_simp; (try with_reducible rfl))
                  try simp only [Act.put, List.setIfInBounds_toArray, List.set_cons_zero, List.set_cons_succ]
                  refine wpAnyH_take (i := 1) (oi := ({ dst := some 41, op := Op.move (Operand.tmp 8), type := 3, pos := "law.go:85", after := #[], guard := none } : Oper)) (v := ?hv90) rfl (by kernel_rfl) (by kernel_rfl) (by kernel_rfl) (fun _ _ _ h => h) (Or.inl ⟨by rfl, ?hy90⟩) (by assumption) ?hr90
                  case hy90 => (intro w hSw; (try dsimp only at hSw); go_simp; (try with_reducible rfl))
                  try simp only [Act.put, List.setIfInBounds_toArray, List.set_cons_zero, List.set_cons_succ]
                  refine wpAnyH_take (i := 2) (oi := ({ dst := some 42, op := Op.indexAddr 40 (Operand.tmp 6) (Operand.tmp 41), type := 0, pos := "law.go:85", after := #[{ on := 1, ground := Ground.data }], guard := none } : Oper)) (v := ?hv91) rfl (by kernel_rfl) (by kernel_rfl) (by kernel_rfl) (fun _ _ _ h => h) (Or.inl ⟨by rfl, ?hy91⟩) (by assumption) ?hr91
                  case hy91 => (intro w hSw; (try dsimp only at hSw); go_simp; (try with_reducible rfl))
                  try simp only [Act.put, List.setIfInBounds_toArray, List.set_cons_zero, List.set_cons_succ]
                  refine wpAnyH_take (i := 3) (oi := ({ dst := some 43, op := Op.load 9 (Operand.tmp 42), type := 9, pos := "law.go:85", after := #[{ on := 2, ground := Ground.data }], guard := none } : Oper)) (v := .string ⟨#[100, 101, 115, 107]⟩) rfl (by kernel_rfl) (by kernel_rfl) (by kernel_rfl) (fun _ _ _ h => h) (Or.inl ⟨by rfl, fun w0 hw0 => by have q0 := (HM.out.nms.below hw0).cell (i := 1) rfl; go_simp⟩) (by assumption) ?_
                  try simp only [Act.put, List.setIfInBounds_toArray, List.set_cons_zero, List.set_cons_succ]
                  refine wpAnyH_take (i := 4) (oi := ({ dst := some 44, op := Op.move (Operand.tmp 0), type := 38, pos := "law.go:85", after := #[], guard := none } : Oper)) (v := ?hv92) rfl (by kernel_rfl) (by kernel_rfl) (by kernel_rfl) (fun _ _ _ h => h) (Or.inl ⟨by rfl, ?hy92⟩) (by assumption) ?hr92
                  case hy92 => (intro w hSw; (try dsimp only at hSw); go_simp; (try with_reducible rfl))
                  try simp only [Act.put, List.setIfInBounds_toArray, List.set_cons_zero, List.set_cons_succ]
                  refine wpAnyH_take (i := 5) (oi := ({ dst := some 45, op := Op.move (Operand.tmp 7), type := 3, pos := "law.go:85", after := #[], guard := none } : Oper)) (v := ?hv93) rfl (by kernel_rfl) (by kernel_rfl) (by kernel_rfl) (fun _ _ _ h => h) (Or.inl ⟨by rfl, ?hy93⟩) (by assumption) ?hr93
                  case hy93 => (intro w hSw; (try dsimp only at hSw); go_simp; (try with_reducible rfl))
                  try simp only [Act.put, List.setIfInBounds_toArray, List.set_cons_zero, List.set_cons_succ]
                  refine wpAnyH_take (i := 6) (oi := ({ dst := some 46, op := Op.indexAddr 38 (Operand.tmp 44) (Operand.tmp 45), type := 0, pos := "law.go:85", after := #[{ on := 4, ground := Ground.data }, { on := 5, ground := Ground.data }], guard := none } : Oper)) (v := ?hv94) rfl (by kernel_rfl) (by kernel_rfl) (by kernel_rfl) (fun _ _ _ h => h) (Or.inl ⟨by rfl, ?hy94⟩) (by assumption) ?hr94
                  case hy94 => (intro w hSw; (try dsimp only at hSw); go_simp; (try with_reducible rfl))
                  try simp only [Act.put, List.setIfInBounds_toArray, List.set_cons_zero, List.set_cons_succ]
                  refine wpAnyH_take (i := 7) (oi := ({ dst := some 47, op := Op.fieldAddr 42 (Operand.tmp 46) 1, type := 0, pos := "law.go:85", after := #[{ on := 6, ground := Ground.data }], guard := none } : Oper)) (v := ?hv95) rfl (by kernel_rfl) (by kernel_rfl) (by kernel_rfl) (fun _ _ _ h => h) (Or.inl ⟨by rfl, ?hy95⟩) (by assumption) ?hr95
                  case hy95 => (intro w hSw; (try dsimp only at hSw); go_simp; (try with_reducible rfl))
                  try simp only [Act.put, List.setIfInBounds_toArray, List.set_cons_zero, List.set_cons_succ]
                  refine wpAnyH_take (i := 8) (oi := ({ dst := some 48, op := Op.load 3 (Operand.tmp 47), type := 3, pos := "law.go:85", after := #[{ on := 7, ground := Ground.data }], guard := none } : Oper)) (v := .int .i64 N) rfl (by kernel_rfl) (by kernel_rfl) (by kernel_rfl) (fun _ _ _ h => h) (Or.inl ⟨by rfl, fun w0 hw0 => by have q0 := (hw0.cell (p := ⟨b, off + kk * 2 + 1, none⟩) hbl).trans k1; go_simp⟩) (by assumption) ?_
                  try simp only [Act.put, List.setIfInBounds_toArray, List.set_cons_zero, List.set_cons_succ]
                  refine wpAnyH_ready (rs := [9]) (by kernel_rfl) (by simp) ?_
                  refine AllReadyH.cons (o := ({ dst := some 49, op := Op.call { callee := Callee.value (Operand.func 12), args := #[Operand.tmp 40, Operand.const (Value.string { data := #[64, 97, 110, 110, 58, 97] }), Operand.tmp 43, Operand.tmp 48], argTypes := #[22, 9, 9, 3] }, type := 29, pos := "law.go:85", after := #[{ on := 0, ground := Ground.data }, { on := 3, ground := Ground.data }, { on := 8, ground := Ground.data }], guard := none } : Oper)) rfl (fun KK hKK => ?_) AllReadyH.nil
                  go_simp
                  (with_reducible refine (up_true HM.out (by omega) N _ RB0.out 2 (by rw [HM.out.st.upE (by omega) true]; rw [if_pos (by omega)])).mono ?_)
                  rintro e0 y1 ⟨A2, c2, ys, rfl, ho⟩
                  have hb := ho.2.1
                  have RB1 := Lib.hid (RB0.out.trans (hb.mono RB0.out.size))
                  have OP := Lib.hid ho
                  clear ho
                  clear hb
                  refine hKK.out _ _ (RB1.out) (fun hH1 => ?_)
                  clear hKK KK
                  try simp only [Act.put, List.setIfInBounds_toArray, List.set_cons_zero, List.set_cons_succ]
                  refine wpAnyH_take (i := 10) (oi := ({ dst := some 39, op := Op.move (Operand.tmp 49), type := 29, pos := "law.go:85", after := #[{ on := 9, ground := Ground.data }], guard := none } : Oper)) (v := ?hv96) rfl (by kernel_rfl) (by kernel_rfl) (by kernel_rfl) (fun _ _ _ h => h) (Or.inl ⟨by rfl, ?hy96⟩) (by assumption) ?hr96
                  case hy96 => (intro w hSw; (try dsimp only at hSw); go_simp; (try with_reducible rfl))
                  try simp only [Act.put, List.setIfInBounds_toArray, List.set_cons_zero, List.set_cons_succ]
                  refine wpAnyH_take (i := 11) (oi := ({ dst := some 50, op := Op.extract (Operand.tmp 39) 0, type := 22, pos := "law.go:85", after := #[{ on := 10, ground := Ground.data }], guard := none } : Oper)) (v := ?hv97) rfl (by kernel_rfl) (by kernel_rfl) (by kernel_rfl) (fun _ _ _ h => h) (Or.inl ⟨by rfl, ?hy97⟩) (by assumption) ?hr97
                  case hy97 => (intro w hSw; (try dsimp only at hSw); go_simp; (try with_reducible rfl))
                  try simp only [Act.put, List.setIfInBounds_toArray, List.set_cons_zero, List.set_cons_succ]
                  refine wpAnyH_take (i := 12) (oi := ({ dst := some 51, op := Op.extract (Operand.tmp 39) 1, type := 25, pos := "law.go:85", after := #[{ on := 10, ground := Ground.data }, { on := 13, ground := Ground.gcOnly Departure.lateStores }], guard := none } : Oper)) (v := ?hv98) rfl (by kernel_rfl) (by kernel_rfl) (by kernel_rfl) (fun _ _ _ h => h) (Or.inl ⟨by rfl, ?hy98⟩) (by assumption) ?hr98
                  case hy98 => (intro w hSw; (try dsimp only at hSw); go_simp; (try with_reducible rfl))
                  try simp only [Act.put, List.setIfInBounds_toArray, List.set_cons_zero, List.set_cons_succ]
                  refine wpAnyH_take (i := 13) (oi := ({ dst := some 9, op := Op.assign (Operand.tmp 50), type := 22, pos := "law.go:85", after := #[{ on := 11, ground := Ground.data }, { on := 9, ground := Ground.chain }, { on := 0, ground := Ground.phase }, { on := 1, ground := Ground.phase }, { on := 2, ground := Ground.phase }, { on := 3, ground := Ground.phase }, { on := 4, ground := Ground.phase }, { on := 5, ground := Ground.phase }, { on := 6, ground := Ground.phase }, { on := 7, ground := Ground.phase }, { on := 8, ground := Ground.phase }, { on := 9, ground := Ground.phase }, { on := 10, ground := Ground.phase }, { on := 11, ground := Ground.phase }, { on := 12, ground := Ground.textOnly Departure.lateStores }], guard := none } : Oper)) (v := ?hv99) rfl (by kernel_rfl) (by kernel_rfl) (by kernel_rfl) (fun _ _ _ h => h) (Or.inl ⟨by rfl, ?hy99⟩) (by assumption) ?hr99
                  case hy99 => (intro w hSw; (try dsimp only at hSw); go_simp; (try with_reducible rfl))
                  try simp only [Act.put, List.setIfInBounds_toArray, List.set_cons_zero, List.set_cons_succ]
                  refine wpAnyH_take (i := 14) (oi := ({ dst := some 10, op := Op.assign (Operand.tmp 51), type := 25, pos := "law.go:85", after := #[{ on := 12, ground := Ground.data }, { on := 13, ground := Ground.chain }, { on := 0, ground := Ground.phase }, { on := 1, ground := Ground.phase }, { on := 2, ground := Ground.phase }, { on := 3, ground := Ground.phase }, { on := 4, ground := Ground.phase }, { on := 5, ground := Ground.phase }, { on := 6, ground := Ground.phase }, { on := 7, ground := Ground.phase }, { on := 8, ground := Ground.phase }, { on := 9, ground := Ground.phase }, { on := 10, ground := Ground.phase }, { on := 11, ground := Ground.phase }, { on := 12, ground := Ground.phase }, { on := 13, ground := Ground.phase }], guard := none } : Oper)) (v := ?hv100) rfl (by kernel_rfl) (by kernel_rfl) (by kernel_rfl) (fun _ _ _ h => h) (Or.inl ⟨by rfl, ?hy100⟩) (by assumption) ?hr100
                  case hy100 => (intro w hSw; (try dsimp only at hSw); go_simp; (try with_reducible rfl))
                  try simp only [Act.put, List.setIfInBounds_toArray, List.set_cons_zero, List.set_cons_succ]
                  refine wpAnyH_done (by kernel_rfl) ?_ _
                  have z1 := (RB1.out.cell (p := ⟨b, off + kk * 2 + 1, none⟩) hbl).trans k1
                  have z2 := (HM.out.ups.below RB1.out).cell (i := 1) rfl
                  have z3 := (HM.out.cls.below RB1.out).cell (i := 1) rfl
                  rw [HU.out] at z2
                  rw [HQ.out] at z3
                  have z4 := (HM.out.ups.below RB1.out).free 1
                  have hg1 : decide ((1 : Int) ≤ N) = true := decide_eq_true h1
                  have hg2 : decide (N ≤ (100 : Int)) = false := decide_eq_false (by omega)
                  go_upto_region 14 with (fail)
                  go_quiet (fail)
                  go_wp2
                  go_meet
                  case rel => exact ⟨_, _, _, _, _, _, rfl, (HM.out.below (below_drewN RB1.out _)).more⟩
              · skip
                go_upto_region 13 with (fail)
                refine wp_region_held_drew (S := (fun w0 => Below wr.heap.size wr w0)) (by kernel_rfl) ((Below.refl _ _).drew) (fun hH0 => ?_)
                generalize wr.drew = y0 at hH0 ⊢
                have RB0 : Hid (Below wr.heap.size wr y0) := Lib.hid hH0
                refine wpAnyH_take (i := 0) (oi := ({ dst := some 40, op := Op.move (Operand.tmp 3), type := 22, pos := "law.go:85", after := #[], guard := none } : Oper)) (v := ?hv101) rfl (by kernel_rfl) (by kernel_rfl) (by kernel_rfl) (fun _ _ _ h => h) (Or.inl ⟨by rfl, ?hy101⟩) (by assumption) ?hr101
                case hy101 => (intro w hSw; (try dsimp only at hSw); go_simp; (try with_reducible rfl))
                try simp only [Act.put, List.setIfInBounds_toArray, List.set_cons_zero, List.set_cons_succ]
                refine wpAnyH_take (i := 1) (oi := ({ dst := some 41, op := Op.move (Operand.tmp 8), type := 3, pos := "law.go:85", after := #[], guard := none } : Oper)) (v := ?hv102) rfl (by kernel_rfl) (by kernel_rfl) (by kernel_rfl) (fun _ _ _ h => h) (Or.inl ⟨by rfl, ?hy102⟩) (by assumption) ?hr102
                case hy102 => (intro w hSw; (try dsimp only at hSw); go_simp; (try with_reducible rfl))
                try simp only [Act.put, List.setIfInBounds_toArray, List.set_cons_zero, List.set_cons_succ]
                refine wpAnyH_take (i := 2) (oi := ({ dst := some 42, op := Op.indexAddr 40 (Operand.tmp 6) (Operand.tmp 41), type := 0, pos := "law.go:85", after := #[{ on := 1, ground := Ground.data }], guard := none } : Oper)) (v := ?hv103) rfl (by kernel_rfl) (by kernel_rfl) (by kernel_rfl) (fun _ _ _ h => h) (Or.inl ⟨by rfl, ?hy103⟩) (by assumption) ?hr103
                case hy103 => (intro w hSw; (try dsimp only at hSw); go_simp; (try with_reducible rfl))
                try simp only [Act.put, List.setIfInBounds_toArray, List.set_cons_zero, List.set_cons_succ]
                refine wpAnyH_take (i := 3) (oi := ({ dst := some 43, op := Op.load 9 (Operand.tmp 42), type := 9, pos := "law.go:85", after := #[{ on := 2, ground := Ground.data }], guard := none } : Oper)) (v := .string ⟨#[100, 101, 115, 107]⟩) rfl (by kernel_rfl) (by kernel_rfl) (by kernel_rfl) (fun _ _ _ h => h) (Or.inl ⟨by rfl, fun w0 hw0 => by have q0 := (HM.out.nms.below hw0).cell (i := 1) rfl; go_simp⟩) (by assumption) ?_
                try simp only [Act.put, List.setIfInBounds_toArray, List.set_cons_zero, List.set_cons_succ]
                refine wpAnyH_take (i := 4) (oi := ({ dst := some 44, op := Op.move (Operand.tmp 0), type := 38, pos := "law.go:85", after := #[], guard := none } : Oper)) (v := ?hv104) rfl (by kernel_rfl) (by kernel_rfl) (by kernel_rfl) (fun _ _ _ h => h) (Or.inl ⟨by rfl, ?hy104⟩) (by assumption) ?hr104
                case hy104 => (intro w hSw; (try dsimp only at hSw); go_simp; (try with_reducible rfl))
                try simp only [Act.put, List.setIfInBounds_toArray, List.set_cons_zero, List.set_cons_succ]
                refine wpAnyH_take (i := 5) (oi := ({ dst := some 45, op := Op.move (Operand.tmp 7), type := 3, pos := "law.go:85", after := #[], guard := none } : Oper)) (v := ?hv105) rfl (by kernel_rfl) (by kernel_rfl) (by kernel_rfl) (fun _ _ _ h => h) (Or.inl ⟨by rfl, ?hy105⟩) (by assumption) ?hr105
                case hy105 => (intro w hSw; (try dsimp only at hSw); go_simp; (try with_reducible rfl))
                try simp only [Act.put, List.setIfInBounds_toArray, List.set_cons_zero, List.set_cons_succ]
                refine wpAnyH_take (i := 6) (oi := ({ dst := some 46, op := Op.indexAddr 38 (Operand.tmp 44) (Operand.tmp 45), type := 0, pos := "law.go:85", after := #[{ on := 4, ground := Ground.data }, { on := 5, ground := Ground.data }], guard := none } : Oper)) (v := ?hv106) rfl (by kernel_rfl) (by kernel_rfl) (by kernel_rfl) (fun _ _ _ h => h) (Or.inl ⟨by rfl, ?hy106⟩) (by assumption) ?hr106
                case hy106 => (intro w hSw; (try dsimp only at hSw); go_simp; (try with_reducible rfl))
                try simp only [Act.put, List.setIfInBounds_toArray, List.set_cons_zero, List.set_cons_succ]
                refine wpAnyH_take (i := 7) (oi := ({ dst := some 47, op := Op.fieldAddr 42 (Operand.tmp 46) 1, type := 0, pos := "law.go:85", after := #[{ on := 6, ground := Ground.data }], guard := none } : Oper)) (v := ?hv107) rfl (by kernel_rfl) (by kernel_rfl) (by kernel_rfl) (fun _ _ _ h => h) (Or.inl ⟨by rfl, ?hy107⟩) (by assumption) ?hr107
                case hy107 => (intro w hSw; (try dsimp only at hSw); go_simp; (try with_reducible rfl))
                try simp only [Act.put, List.setIfInBounds_toArray, List.set_cons_zero, List.set_cons_succ]
                refine wpAnyH_take (i := 8) (oi := ({ dst := some 48, op := Op.load 3 (Operand.tmp 47), type := 3, pos := "law.go:85", after := #[{ on := 7, ground := Ground.data }], guard := none } : Oper)) (v := .int .i64 N) rfl (by kernel_rfl) (by kernel_rfl) (by kernel_rfl) (fun _ _ _ h => h) (Or.inl ⟨by rfl, fun w0 hw0 => by have q0 := (hw0.cell (p := ⟨b, off + kk * 2 + 1, none⟩) hbl).trans k1; go_simp⟩) (by assumption) ?_
                try simp only [Act.put, List.setIfInBounds_toArray, List.set_cons_zero, List.set_cons_succ]
                refine wpAnyH_ready (rs := [9]) (by kernel_rfl) (by simp) ?_
                refine AllReadyH.cons (o := ({ dst := some 49, op := Op.call { callee := Callee.value (Operand.func 12), args := #[Operand.tmp 40, Operand.const (Value.string { data := #[64, 97, 110, 110, 58, 97] }), Operand.tmp 43, Operand.tmp 48], argTypes := #[22, 9, 9, 3] }, type := 29, pos := "law.go:85", after := #[{ on := 0, ground := Ground.data }, { on := 3, ground := Ground.data }, { on := 8, ground := Ground.data }], guard := none } : Oper)) rfl (fun KK hKK => ?_) AllReadyH.nil
                go_simp
                (with_reducible refine (up_true HM.out (by omega) N _ RB0.out 2 (by rw [HM.out.st.upE (by omega) true]; rw [if_pos (by omega)])).mono ?_)
                rintro e0 y1 ⟨A2, c2, ys, rfl, ho⟩
                have hb := ho.2.1
                have RB1 := Lib.hid (RB0.out.trans (hb.mono RB0.out.size))
                have OP := Lib.hid ho
                clear ho
                clear hb
                refine hKK.out _ _ (RB1.out) (fun hH1 => ?_)
                clear hKK KK
                try simp only [Act.put, List.setIfInBounds_toArray, List.set_cons_zero, List.set_cons_succ]
                refine wpAnyH_take (i := 10) (oi := ({ dst := some 39, op := Op.move (Operand.tmp 49), type := 29, pos := "law.go:85", after := #[{ on := 9, ground := Ground.data }], guard := none } : Oper)) (v := ?hv108) rfl (by kernel_rfl) (by kernel_rfl) (by kernel_rfl) (fun _ _ _ h => h) (Or.inl ⟨by rfl, ?hy108⟩) (by assumption) ?hr108
                case hy108 => (intro w hSw; (try dsimp only at hSw); go_simp; (try with_reducible rfl))
                try simp only [Act.put, List.setIfInBounds_toArray, List.set_cons_zero, List.set_cons_succ]
                refine wpAnyH_take (i := 11) (oi := ({ dst := some 50, op := Op.extract (Operand.tmp 39) 0, type := 22, pos := "law.go:85", after := #[{ on := 10, ground := Ground.data }], guard := none } : Oper)) (v := ?hv109) rfl (by kernel_rfl) (by kernel_rfl) (by kernel_rfl) (fun _ _ _ h => h) (Or.inl ⟨by rfl, ?hy109⟩) (by assumption) ?hr109
                case hy109 => (intro w hSw; (try dsimp only at hSw); go_simp; (try with_reducible rfl))
                try simp only [Act.put, List.setIfInBounds_toArray, List.set_cons_zero, List.set_cons_succ]
                refine wpAnyH_take (i := 12) (oi := ({ dst := some 51, op := Op.extract (Operand.tmp 39) 1, type := 25, pos := "law.go:85", after := #[{ on := 10, ground := Ground.data }, { on := 13, ground := Ground.gcOnly Departure.lateStores }], guard := none } : Oper)) (v := ?hv110) rfl (by kernel_rfl) (by kernel_rfl) (by kernel_rfl) (fun _ _ _ h => h) (Or.inl ⟨by rfl, ?hy110⟩) (by assumption) ?hr110
                case hy110 => (intro w hSw; (try dsimp only at hSw); go_simp; (try with_reducible rfl))
                try simp only [Act.put, List.setIfInBounds_toArray, List.set_cons_zero, List.set_cons_succ]
                refine wpAnyH_take (i := 13) (oi := ({ dst := some 9, op := Op.assign (Operand.tmp 50), type := 22, pos := "law.go:85", after := #[{ on := 11, ground := Ground.data }, { on := 9, ground := Ground.chain }, { on := 0, ground := Ground.phase }, { on := 1, ground := Ground.phase }, { on := 2, ground := Ground.phase }, { on := 3, ground := Ground.phase }, { on := 4, ground := Ground.phase }, { on := 5, ground := Ground.phase }, { on := 6, ground := Ground.phase }, { on := 7, ground := Ground.phase }, { on := 8, ground := Ground.phase }, { on := 9, ground := Ground.phase }, { on := 10, ground := Ground.phase }, { on := 11, ground := Ground.phase }, { on := 12, ground := Ground.textOnly Departure.lateStores }], guard := none } : Oper)) (v := ?hv111) rfl (by kernel_rfl) (by kernel_rfl) (by kernel_rfl) (fun _ _ _ h => h) (Or.inl ⟨by rfl, ?hy111⟩) (by assumption) ?hr111
                case hy111 => (intro w hSw; (try dsimp only at hSw); go_simp; (try with_reducible rfl))
                try simp only [Act.put, List.setIfInBounds_toArray, List.set_cons_zero, List.set_cons_succ]
                refine wpAnyH_take (i := 14) (oi := ({ dst := some 10, op := Op.assign (Operand.tmp 51), type := 25, pos := "law.go:85", after := #[{ on := 12, ground := Ground.data }, { on := 13, ground := Ground.chain }, { on := 0, ground := Ground.phase }, { on := 1, ground := Ground.phase }, { on := 2, ground := Ground.phase }, { on := 3, ground := Ground.phase }, { on := 4, ground := Ground.phase }, { on := 5, ground := Ground.phase }, { on := 6, ground := Ground.phase }, { on := 7, ground := Ground.phase }, { on := 8, ground := Ground.phase }, { on := 9, ground := Ground.phase }, { on := 10, ground := Ground.phase }, { on := 11, ground := Ground.phase }, { on := 12, ground := Ground.phase }, { on := 13, ground := Ground.phase }], guard := none } : Oper)) (v := ?hv112) rfl (by kernel_rfl) (by kernel_rfl) (by kernel_rfl) (fun _ _ _ h => h) (Or.inl ⟨by rfl, ?hy112⟩) (by assumption) ?hr112
                case hy112 => (intro w hSw; (try dsimp only at hSw); go_simp; (try with_reducible rfl))
                try simp only [Act.put, List.setIfInBounds_toArray, List.set_cons_zero, List.set_cons_succ]
                refine wpAnyH_done (by kernel_rfl) ?_ _
                have z1 := (RB1.out.cell (p := ⟨b, off + kk * 2 + 1, none⟩) hbl).trans k1
                have z2 := (HM.out.ups.below RB1.out).cell (i := 1) rfl
                have z3 := (HM.out.cls.below RB1.out).cell (i := 1) rfl
                rw [HU.out] at z2
                rw [HQ.out] at z3
                have z4 := (HM.out.ups.below RB1.out).free 1
                have hg1 : decide ((1 : Int) ≤ N) = false := decide_eq_false (by omega)
                go_upto_region 14 with (fail)
                go_quiet (fail)
                go_wp2
                go_meet
                case rel => exact ⟨_, _, _, _, _, _, rfl, (HM.out.below (below_drewN RB1.out _)).more⟩
          case rest =>
            obtain ⟨A3, n3, c3, xs3, up3, cl3, rfl, hM3⟩ := hcut
            have HM3 := Lib.hid hM3
            have L0 := Lib.hid (fun y hb => left_false hM3 (by omega) y hb)
            have L1 := Lib.hid (fun y hb => left_true hM3 (by omega) y hb)
            have hl0 := hM3.st.le false
            have hl1 := hM3.st.le true
            clear hM3
            obtain ⟨u0, hu0⟩ : ∃ x, up3 false = x := ⟨_, rfl⟩
            obtain ⟨q0, hq0⟩ : ∃ x, cl3 false = x := ⟨_, rfl⟩
            obtain ⟨u1, hu1⟩ : ∃ x, up3 true = x := ⟨_, rfl⟩
            obtain ⟨q1, hq1⟩ : ∃ x, cl3 true = x := ⟨_, rfl⟩
            rw [hu0, hq0] at hl0 L0
            rw [hu1, hq1] at hl1 L1
            have E0 := Lib.hid hu0
            have E1 := Lib.hid hq0
            have E2 := Lib.hid hu1
            have E3 := Lib.hid hq1
            have f1 : IntKind.i64.wrap (u0 - q0) = u0 - q0 := IntWalk.i64_in _ (by omega)
            have f2 : IntKind.i64.wrap (u1 - q1) = u1 - q1 := IntWalk.i64_in _ (by omega)
            have f3 : ((u0 - q0) != (u0 - q0)) = false := by simp
            have f4 : ((u1 - q1) != (u1 - q1)) = false := by simp
            clear hu0 hq0 hu1 hq1
            go_upto_region 26 with (fail)
            refine wp_region_held_drew (S := (fun w0 => Below wc.heap.size wc w0)) (by kernel_rfl) ((Below.refl _ _).drew) (fun hH0 => ?_)
            generalize wc.drew = y0 at hH0 ⊢
            have RB0 : Hid (Below wc.heap.size wc y0) := Lib.hid hH0
            refine wpAnyH_take (i := 0) (oi := ({ dst := some 138, op := Op.move (Operand.tmp 3), type := 22, pos := "law.go:104", after := #[], guard := none } : Oper)) (v := ?hv113) rfl (by kernel_rfl) (by kernel_rfl) (by kernel_rfl) (fun _ _ _ h => h) (Or.inl ⟨by rfl, ?hy113⟩) (by assumption) ?hr113
            case hy113 => (intro w hSw; (try dsimp only at hSw); go_simp; (try with_reducible rfl))
            try simp only [Act.put, List.setIfInBounds_toArray, List.set_cons_zero, List.set_cons_succ]
            refine wpAnyH_ready (rs := [1]) (by kernel_rfl) (by simp) ?_
            refine AllReadyH.cons (o := ({ dst := some 139, op := Op.call { callee := Callee.value (Operand.func 10), args := #[Operand.tmp 138], argTypes := #[22] }, type := 25, pos := "law.go:104", after := #[{ on := 0, ground := Ground.data }], guard := none } : Oper)) rfl (fun KK hKK => ?_) AllReadyH.nil
            go_simp
            (with_reducible refine (chk_0 HM3.out (by omega) _ RB0.out).mono ?_)
            rintro e0 y1 ⟨rfl, hb⟩
            have RB1 := Lib.hid (RB0.out.trans (hb.mono RB0.out.size))
            clear hb
            refine hKK.out _ _ (RB1.out) (fun hH1 => ?_)
            clear hKK KK
            try simp only [Act.put, List.setIfInBounds_toArray, List.set_cons_zero, List.set_cons_succ]
            refine wpAnyH_take (i := 2) (oi := ({ dst := some 140, op := Op.binOp BinOp.neq 25 (Operand.tmp 139) (Operand.const (Value.int IntKind.i64 0)) 25, type := 4, pos := "law.go:104", after := #[{ on := 1, ground := Ground.data }], guard := none } : Oper)) (v := ?hv114) rfl (by kernel_rfl) (by kernel_rfl) (by kernel_rfl) (fun _ _ _ h => h) (Or.inl ⟨by rfl, ?hy114⟩) (by assumption) ?hr114
            case hy114 => (intro w hSw; (try dsimp only at hSw); go_simp; (try with_reducible rfl))
            try simp only [Act.put, List.setIfInBounds_toArray, List.set_cons_zero, List.set_cons_succ]
            refine wpAnyH_take (i := 3) (oi := ({ dst := some 141, op := Op.move (Operand.tmp 140), type := 4, pos := "law.go:104", after := #[{ on := 2, ground := Ground.data }, { on := 1, ground := Ground.chain }], guard := none } : Oper)) (v := ?hv115) rfl (by kernel_rfl) (by kernel_rfl) (by kernel_rfl) (fun _ _ _ h => h) (Or.inl ⟨by rfl, ?hy115⟩) (by assumption) ?hr115
            case hy115 => (intro w hSw; (try dsimp only at hSw); go_simp; (try with_reducible rfl))
            try simp only [Act.put, List.setIfInBounds_toArray, List.set_cons_zero, List.set_cons_succ]
            refine wpAnyH_take (i := 4) (oi := ({ dst := some 142, op := Op.move (Operand.tmp 3), type := 22, pos := "law.go:104", after := #[{ on := 3, ground := Ground.guard }], guard := some (3, false) } : Oper)) (v := ?hv116) rfl (by kernel_rfl) (by kernel_rfl) (by kernel_rfl) (fun _ _ _ h => h) (Or.inl ⟨by rfl, ?hy116⟩) (by assumption) ?hr116
            case hy116 => (intro w hSw; (try dsimp only at hSw); go_simp; (try with_reducible rfl))
            try simp only [Act.put, List.setIfInBounds_toArray, List.set_cons_zero, List.set_cons_succ]
            refine wpAnyH_take (i := 6) (oi := ({ dst := some 144, op := Op.indexAddr 39 (Operand.tmp 4) (Operand.const (Value.int IntKind.i64 0)), type := 0, pos := "law.go:104", after := #[{ on := 3, ground := Ground.guard }], guard := some (3, false) } : Oper)) (v := ?hv117) rfl (by kernel_rfl) (by kernel_rfl) (by kernel_rfl) (fun _ _ _ h => h) (Or.inl ⟨by rfl, ?hy117⟩) (by assumption) ?hr117
            case hy117 => (intro w hSw; (try dsimp only at hSw); go_simp; (try with_reducible rfl))
            try simp only [Act.put, List.setIfInBounds_toArray, List.set_cons_zero, List.set_cons_succ]
            refine wpAnyH_take (i := 7) (oi := ({ dst := some 145, op := Op.load 3 (Operand.tmp 144), type := 3, pos := "law.go:104", after := #[{ on := 6, ground := Ground.data }, { on := 3, ground := Ground.guard }], guard := some (3, false) } : Oper)) (v := .int .i64 u0) rfl (by kernel_rfl) (by kernel_rfl) (by kernel_rfl) (fun _ _ _ h => h) (Or.inl ⟨by rfl, fun w0 hw0 => by have q9 := (HM3.out.ups.below hw0).cell (i := 0) rfl; rw [E0.out] at q9; go_simp⟩) (by assumption) ?_
            try simp only [Act.put, List.setIfInBounds_toArray, List.set_cons_zero, List.set_cons_succ]
            refine wpAnyH_take (i := 8) (oi := ({ dst := some 146, op := Op.indexAddr 39 (Operand.tmp 5) (Operand.const (Value.int IntKind.i64 0)), type := 0, pos := "law.go:104", after := #[{ on := 3, ground := Ground.guard }], guard := some (3, false) } : Oper)) (v := ?hv118) rfl (by kernel_rfl) (by kernel_rfl) (by kernel_rfl) (fun _ _ _ h => h) (Or.inl ⟨by rfl, ?hy118⟩) (by assumption) ?hr118
            case hy118 => (intro w hSw; (try dsimp only at hSw); go_simp; (try with_reducible rfl))
            try simp only [Act.put, List.setIfInBounds_toArray, List.set_cons_zero, List.set_cons_succ]
            refine wpAnyH_take (i := 9) (oi := ({ dst := some 147, op := Op.load 3 (Operand.tmp 146), type := 3, pos := "law.go:104", after := #[{ on := 8, ground := Ground.data }, { on := 3, ground := Ground.guard }], guard := some (3, false) } : Oper)) (v := .int .i64 q0) rfl (by kernel_rfl) (by kernel_rfl) (by kernel_rfl) (fun _ _ _ h => h) (Or.inl ⟨by rfl, fun w0 hw0 => by have q9 := (HM3.out.cls.below hw0).cell (i := 0) rfl; rw [E1.out] at q9; go_simp⟩) (by assumption) ?_
            try simp only [Act.put, List.setIfInBounds_toArray, List.set_cons_zero, List.set_cons_succ]
            refine wpAnyH_take (i := 10) (oi := ({ dst := some 148, op := Op.binOp BinOp.sub 3 (Operand.tmp 145) (Operand.tmp 147) 3, type := 3, pos := "law.go:104", after := #[{ on := 7, ground := Ground.data }, { on := 9, ground := Ground.data }, { on := 3, ground := Ground.guard }], guard := some (3, false) } : Oper)) (v := ?hv119) rfl (by kernel_rfl) (by kernel_rfl) (by kernel_rfl) (fun _ _ _ h => h) (Or.inl ⟨by rfl, ?hy119⟩) (by assumption) ?hr119
            case hy119 => (intro w hSw; (try dsimp only at hSw); go_simp; (try with_reducible rfl))
            try simp only [Act.put, List.setIfInBounds_toArray, List.set_cons_zero, List.set_cons_succ]
            refine wpAnyH_ready (rs := [5]) (by kernel_rfl) (by simp) ?_
            refine AllReadyH.cons (o := ({ dst := some 143, op := Op.call { callee := Callee.value (Operand.func 17), args := #[Operand.tmp 142, Operand.const (Value.string { data := #[64, 97, 110, 110, 58, 97] }), Operand.const (Value.string { data := #[112, 104, 111, 110, 101] })], argTypes := #[22, 9, 9] }, type := 3, pos := "law.go:104", after := #[{ on := 4, ground := Ground.data }, { on := 3, ground := Ground.chain }, { on := 3, ground := Ground.guard }], guard := some (3, false) } : Oper)) rfl (fun KK hKK => ?_) AllReadyH.nil
            go_simp
            (with_reducible refine (L0.out _ RB1.out).mono ?_)
            rintro e0 y2 ⟨rfl, hb⟩
            have RB2 := Lib.hid (RB1.out.trans (hb.mono RB1.out.size))
            clear hb
            refine hKK.out _ _ (RB2.out) (fun hH2 => ?_)
            clear hKK KK
            try simp only [Act.put, List.setIfInBounds_toArray, List.set_cons_zero, List.set_cons_succ]
            refine wpAnyH_take (i := 11) (oi := ({ dst := some 149, op := Op.binOp BinOp.neq 3 (Operand.tmp 143) (Operand.tmp 148) 3, type := 4, pos := "law.go:104", after := #[{ on := 5, ground := Ground.data }, { on := 10, ground := Ground.data }, { on := 3, ground := Ground.guard }], guard := some (3, false) } : Oper)) (v := ?hv120) rfl (by kernel_rfl) (by kernel_rfl) (by kernel_rfl) (fun _ _ _ h => h) (Or.inl ⟨by rfl, ?hy120⟩) (by assumption) ?hr120
            case hy120 => (intro w hSw; (try dsimp only at hSw); go_simp; (try with_reducible rfl))
            try simp only [Act.put, List.setIfInBounds_toArray, List.set_cons_zero, List.set_cons_succ]
            refine wpAnyH_take (i := 12) (oi := ({ dst := some 150, op := Op.pick (Operand.tmp 141) (Operand.const (Value.bool true)) (Operand.tmp 149), type := 4, pos := "law.go:104", after := #[{ on := 3, ground := Ground.data }, { on := 11, ground := Ground.data }], guard := none } : Oper)) (v := ?hv121) rfl (by kernel_rfl) (by kernel_rfl) (by kernel_rfl) (fun _ _ _ h => h) (Or.inl ⟨by rfl, ?hy121⟩) (by assumption) ?hr121
            case hy121 => (intro w hSw; (try dsimp only at hSw); go_simp; (try with_reducible rfl))
            try simp only [Act.put, List.setIfInBounds_toArray, List.set_cons_zero, List.set_cons_succ]
            refine wpAnyH_take (i := 13) (oi := ({ dst := some 151, op := Op.move (Operand.tmp 150), type := 4, pos := "law.go:104", after := #[{ on := 12, ground := Ground.data }, { on := 5, ground := Ground.chain }], guard := none } : Oper)) (v := ?hv122) rfl (by kernel_rfl) (by kernel_rfl) (by kernel_rfl) (fun _ _ _ h => h) (Or.inl ⟨by rfl, ?hy122⟩) (by assumption) ?hr122
            case hy122 => (intro w hSw; (try dsimp only at hSw); go_simp; (try with_reducible rfl))
            try simp only [Act.put, List.setIfInBounds_toArray, List.set_cons_zero, List.set_cons_succ]
            refine wpAnyH_take (i := 14) (oi := ({ dst := some 152, op := Op.move (Operand.tmp 3), type := 22, pos := "law.go:104", after := #[{ on := 13, ground := Ground.guard }], guard := some (13, false) } : Oper)) (v := ?hv123) rfl (by kernel_rfl) (by kernel_rfl) (by kernel_rfl) (fun _ _ _ h => h) (Or.inl ⟨by rfl, ?hy123⟩) (by assumption) ?hr123
            case hy123 => (intro w hSw; (try dsimp only at hSw); go_simp; (try with_reducible rfl))
            try simp only [Act.put, List.setIfInBounds_toArray, List.set_cons_zero, List.set_cons_succ]
            refine wpAnyH_take (i := 16) (oi := ({ dst := some 154, op := Op.indexAddr 39 (Operand.tmp 4) (Operand.const (Value.int IntKind.i64 1)), type := 0, pos := "law.go:104", after := #[{ on := 13, ground := Ground.guard }], guard := some (13, false) } : Oper)) (v := ?hv124) rfl (by kernel_rfl) (by kernel_rfl) (by kernel_rfl) (fun _ _ _ h => h) (Or.inl ⟨by rfl, ?hy124⟩) (by assumption) ?hr124
            case hy124 => (intro w hSw; (try dsimp only at hSw); go_simp; (try with_reducible rfl))
            try simp only [Act.put, List.setIfInBounds_toArray, List.set_cons_zero, List.set_cons_succ]
            refine wpAnyH_take (i := 17) (oi := ({ dst := some 155, op := Op.load 3 (Operand.tmp 154), type := 3, pos := "law.go:104", after := #[{ on := 16, ground := Ground.data }, { on := 13, ground := Ground.guard }], guard := some (13, false) } : Oper)) (v := .int .i64 u1) rfl (by kernel_rfl) (by kernel_rfl) (by kernel_rfl) (fun _ _ _ h => h) (Or.inl ⟨by rfl, fun w0 hw0 => by have q9 := (HM3.out.ups.below hw0).cell (i := 1) rfl; rw [E2.out] at q9; go_simp⟩) (by assumption) ?_
            try simp only [Act.put, List.setIfInBounds_toArray, List.set_cons_zero, List.set_cons_succ]
            refine wpAnyH_take (i := 18) (oi := ({ dst := some 156, op := Op.indexAddr 39 (Operand.tmp 5) (Operand.const (Value.int IntKind.i64 1)), type := 0, pos := "law.go:104", after := #[{ on := 13, ground := Ground.guard }], guard := some (13, false) } : Oper)) (v := ?hv125) rfl (by kernel_rfl) (by kernel_rfl) (by kernel_rfl) (fun _ _ _ h => h) (Or.inl ⟨by rfl, ?hy125⟩) (by assumption) ?hr125
            case hy125 => (intro w hSw; (try dsimp only at hSw); go_simp; (try with_reducible rfl))
            try simp only [Act.put, List.setIfInBounds_toArray, List.set_cons_zero, List.set_cons_succ]
            refine wpAnyH_take (i := 19) (oi := ({ dst := some 157, op := Op.load 3 (Operand.tmp 156), type := 3, pos := "law.go:104", after := #[{ on := 18, ground := Ground.data }, { on := 13, ground := Ground.guard }], guard := some (13, false) } : Oper)) (v := .int .i64 q1) rfl (by kernel_rfl) (by kernel_rfl) (by kernel_rfl) (fun _ _ _ h => h) (Or.inl ⟨by rfl, fun w0 hw0 => by have q9 := (HM3.out.cls.below hw0).cell (i := 1) rfl; rw [E3.out] at q9; go_simp⟩) (by assumption) ?_
            try simp only [Act.put, List.setIfInBounds_toArray, List.set_cons_zero, List.set_cons_succ]
            refine wpAnyH_take (i := 20) (oi := ({ dst := some 158, op := Op.binOp BinOp.sub 3 (Operand.tmp 155) (Operand.tmp 157) 3, type := 3, pos := "law.go:104", after := #[{ on := 17, ground := Ground.data }, { on := 19, ground := Ground.data }, { on := 13, ground := Ground.guard }], guard := some (13, false) } : Oper)) (v := ?hv126) rfl (by kernel_rfl) (by kernel_rfl) (by kernel_rfl) (fun _ _ _ h => h) (Or.inl ⟨by rfl, ?hy126⟩) (by assumption) ?hr126
            case hy126 => (intro w hSw; (try dsimp only at hSw); go_simp; (try with_reducible rfl))
            try simp only [Act.put, List.setIfInBounds_toArray, List.set_cons_zero, List.set_cons_succ]
            refine wpAnyH_ready (rs := [15]) (by kernel_rfl) (by simp) ?_
            refine AllReadyH.cons (o := ({ dst := some 153, op := Op.call { callee := Callee.value (Operand.func 17), args := #[Operand.tmp 152, Operand.const (Value.string { data := #[64, 97, 110, 110, 58, 97] }), Operand.const (Value.string { data := #[100, 101, 115, 107] })], argTypes := #[22, 9, 9] }, type := 3, pos := "law.go:104", after := #[{ on := 14, ground := Ground.data }, { on := 13, ground := Ground.chain }, { on := 13, ground := Ground.guard }], guard := some (13, false) } : Oper)) rfl (fun KK hKK => ?_) AllReadyH.nil
            go_simp
            (with_reducible refine (L1.out _ RB2.out).mono ?_)
            rintro e0 y3 ⟨rfl, hb⟩
            have RB3 := Lib.hid (RB2.out.trans (hb.mono RB2.out.size))
            clear hb
            refine hKK.out _ _ (RB3.out) (fun hH3 => ?_)
            clear hKK KK
            try simp only [Act.put, List.setIfInBounds_toArray, List.set_cons_zero, List.set_cons_succ]
            refine wpAnyH_take (i := 21) (oi := ({ dst := some 159, op := Op.binOp BinOp.neq 3 (Operand.tmp 153) (Operand.tmp 158) 3, type := 4, pos := "law.go:104", after := #[{ on := 15, ground := Ground.data }, { on := 20, ground := Ground.data }, { on := 13, ground := Ground.guard }], guard := some (13, false) } : Oper)) (v := ?hv127) rfl (by kernel_rfl) (by kernel_rfl) (by kernel_rfl) (fun _ _ _ h => h) (Or.inl ⟨by rfl, ?hy127⟩) (by assumption) ?hr127
            case hy127 => (intro w hSw; (try dsimp only at hSw); go_simp; (try with_reducible rfl))
            try simp only [Act.put, List.setIfInBounds_toArray, List.set_cons_zero, List.set_cons_succ]
            refine wpAnyH_take (i := 22) (oi := ({ dst := some 160, op := Op.pick (Operand.tmp 151) (Operand.const (Value.bool true)) (Operand.tmp 159), type := 4, pos := "law.go:104", after := #[{ on := 13, ground := Ground.data }, { on := 21, ground := Ground.data }], guard := none } : Oper)) (v := ?hv128) rfl (by kernel_rfl) (by kernel_rfl) (by kernel_rfl) (fun _ _ _ h => h) (Or.inl ⟨by rfl, ?hy128⟩) (by assumption) ?hr128
            case hy128 => (intro w hSw; (try dsimp only at hSw); go_simp; (try with_reducible rfl))
            try simp only [Act.put, List.setIfInBounds_toArray, List.set_cons_zero, List.set_cons_succ]
            refine wpAnyH_done (by kernel_rfl) ?_ _
            go_wp2
            go_roundg (m - (kk + 1))
            case measure => omega
            case rel => exact ⟨kk + 1, by omega, by omega, by go_num, Lib.hid ⟨_, _, _, _, _, _, rfl, HM3.out.below (by first | exact RB3.out | exact below_drewN RB3.out _)⟩⟩
      · have hltz : ¬ (kk : Int) < (m : Int) := by omega
        go_wp2_with (go_at_call 9; (with_reducible refine (awake9 _).mono ?_); rintro e w1 ⟨rfl, hb⟩; have B1 := Lib.hid (HM.out.bel.trans (hb.mono HM.out.bel.size)); clear hb)
        go_ret
        exact ⟨rfl, B1.out⟩
  · have hm2 : (60 : Int) < (m : Int) := by omega
    clear h
    go_enter Try.func7, Try.ntmps7
    go_wp2_with (go_at_call 9; (with_reducible refine (awake9 _).mono ?_); rintro e w1 ⟨rfl, hb⟩; have B1 := Lib.hid hb; clear hb)
    go_ret
    exact ⟨rfl, B1.out⟩
end Go.Proofs.Ytkmocchikgmnbaa
