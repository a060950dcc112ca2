/- Lists of events, whole; the reference's Great of a list of events. -/
import Derived.Test.YtbedibiodlgegaaKL19
namespace Go.Proofs.Ytbedibiodlgegaa
open Go.RowKit
set_option linter.unusedVariables false
set_option maxRecDepth 100000

def rowI (zs : List Int) (j : Nat) : List Value := [.int .i64 (zs.getD j 0)]
/-- The slice at A has n numbers, which are zs. -/
structure Its (w : World) (A : Option Addr) (n c : Nat) (zs : List Int) : Prop where
  rws : Rws w A n c 1 (rowI zs)
  len : zs.length = n
  cap : n ≤ c
  fit : ∀ z ∈ zs, -9223372036854775808 ≤ z ∧ z ≤ 9223372036854775807
theorem Its.below {w w1 : World} {A : Option Addr} {n c : Nat} {zs : List Int} (h : Its w A n c zs) (hb : Below w.heap.size w w1) : Its w1 A n c zs := ⟨h.rws.below hb, h.len, h.cap, h.fit⟩
theorem Its.nil (w : World) : Its w none 0 0 [] := ⟨Rws.zero _ _ _ _ _ (fun _ => rfl), rfl, Nat.le_refl _, by simp⟩
theorem Its.get {w : World} {A : Option Addr} {n c : Nat} {zs : List Int} (h : Its w A n c zs) {k : Nat} (hk : k < n) : ∃ b off, A = some ⟨b, off, none⟩ ∧ b < w.heap.size ∧ w.cell? ⟨b, off + k, none⟩ = some (.int .i64 (zs.getD k 0)) ∧ (-9223372036854775808 ≤ zs.getD k 0 ∧ zs.getD k 0 ≤ 9223372036854775807) := by
  obtain ⟨b, off, e, hlt, hr⟩ := h.rws.get hk
  refine ⟨b, off, e, hlt, ?_, h.fit _ ?_⟩
  · have := hr 0 _ rfl
    rw [Nat.mul_one, Nat.add_zero] at this
    exact this
  · rw [List.getD_eq_getElem?_getD, List.getElem?_eq_getElem (by rw [h.len]; exact hk)]
    exact List.getElem_mem _
/-- An event. -/
structure Evd where
  e0 : Int
  e1 : ByteArray
  e2 : ByteArray
  e3 : Int
  e4 : Bool
  e5 : ByteArray
  e6 : Int
  e7 : Int
  a8 : Option Addr
  n8 : Nat
  c8 : Nat
  a9 : Option Addr
  n9 : Nat
  c9 : Nat
  C : Ct
  a : Ads
  e26 : Int
  e27 : ByteArray
  e28 : Int
  p8 : List Int
  p9 : List Int
abbrev cellsE (e : Evd) : List Value := evc e.e0 e.e1 e.e2 e.e3 e.e4 e.e5 e.e6 e.e7 e.a8 e.n8 e.c8 e.a9 e.n9 e.c9 e.C.tx e.C.n e.C.tg e.C.th e.C.via e.a.aA e.C.nA e.a.aC e.a.dA e.C.nD e.a.dC e.a.uA e.C.lv.nU e.a.uC e.a.kA e.C.lv.nK e.a.kC e.C.lv.d e.C.lv.x3 e.C.lv.x4 e.C.lv.x5 e.C.lv.x6 e.C.lv.x7 e.C.lv.x8 e.e26 e.e27 e.e28
/-- The bounds of what an event holds. -/
structure Wfe (e : Evd) : Prop where
  b8 : e.n8 ≤ 9223372036854775807
  b9 : e.n9 ≤ 9223372036854775807
  s1 : e.e1.size ≤ 9223372036854775807
  s2 : e.e2.size ≤ 9223372036854775807
  s5 : e.e5.size ≤ 9223372036854775807
  s27 : e.e27.size ≤ 9223372036854775807
  tx : e.C.tx.size ≤ 9223372036854775807
  via : e.C.via.size ≤ 9223372036854775807
  us : ∀ j, j < e.C.lv.nU → (e.C.lv.U j).1.size ≤ 9223372036854775807
  i0 : -9223372036854775808 ≤ e.e0 ∧ e.e0 ≤ 9223372036854775807
  i3 : -9223372036854775808 ≤ e.e3 ∧ e.e3 ≤ 9223372036854775807
  i6 : -9223372036854775808 ≤ e.e6 ∧ e.e6 ≤ 9223372036854775807
  i7 : -9223372036854775808 ≤ e.e7 ∧ e.e7 ≤ 9223372036854775807
  i26 : -9223372036854775808 ≤ e.e26 ∧ e.e26 ≤ 9223372036854775807
  i28 : -9223372036854775808 ≤ e.e28 ∧ e.e28 ≤ 9223372036854775807
  iN : -9223372036854775808 ≤ e.C.n ∧ e.C.n ≤ 9223372036854775807
  iT : -9223372036854775808 ≤ e.C.tg ∧ e.C.tg ≤ 9223372036854775807
def Fe (e : Evd) : Prop := Few e.n8 e.n9 e.C.nA e.C.nD e.C.lv.nU e.C.lv.nK
structure Evx (w : World) (A : Option Addr) (n : Nat) (E : Nat → Evd) : Prop where
  big : n ≤ 9223372036854775807
  at_ : 0 < n → ∃ b off, A = some ⟨b, off, none⟩ ∧ b < w.heap.size ∧ ∀ j, j < n → w.rangeAt b (off + j * 29) (cellsE (E j))
  ct : ∀ j, j < n → IsCt w (E j).C (E j).a
  wf : ∀ j, j < n → Wfe (E j)
  pa : ∀ j, j < n → Its w (E j).a8 (E j).n8 (E j).c8 (E j).p8 ∧ Its w (E j).a9 (E j).n9 (E j).c9 (E j).p9
theorem Evx.below {w w1 : World} {A : Option Addr} {n : Nat} {E : Nat → Evd} (h : Evx w A n E) (hb : Below w.heap.size w w1) : Evx w1 A n E := by
  refine ⟨h.big, fun h0 => ?_, fun j hj => (h.ct j hj).below hb, h.wf, fun j hj => ⟨(h.pa j hj).1.below hb, (h.pa j hj).2.below hb⟩⟩
  obtain ⟨b, off, e, hlt, hc⟩ := h.at_ h0
  exact ⟨b, off, e, Nat.lt_of_lt_of_le hlt hb.size, fun j hj => range_below (hc j hj) hlt hb⟩
theorem Evx.get {w : World} {A : Option Addr} {n : Nat} {E : Nat → Evd} (h : Evx w A n E) {j : Nat} (hj : j < n) :
    ∃ b off, A = some ⟨b, off, none⟩ ∧ Hid (w.rangeAt b (off + j * 29) (cellsE (E j))) := by
  obtain ⟨b, off, e, _, hc⟩ := h.at_ (by omega)
  exact ⟨b, off, e, Lib.hid (hc j hj)⟩
theorem range_part {w : World} {b o : Nat} {cs : List Value} (h : w.rangeAt b o cs) (k n : Nat) : w.rangeAt b (o + k) ((cs.drop k).take n) := fun j v hv => by
  rw [List.getElem?_take] at hv
  split at hv
  · rw [List.getElem?_drop] at hv
    have := h (k + j) v hv
    rw [Nat.add_assoc]
    exact this
  · cases hv
theorem long19e (e : Evd) (w : World) (hc : IsCt w e.C e.a) (h : Wfe e) : Calls Try.prog 10 #[.agg (cellsE e).toArray] w fun r w' => LoP (Fe e) r ∧ Below w.heap.size w w' :=
  long19 e.e0 e.e1 e.e2 e.e3 e.e4 e.e5 e.e6 e.e7 e.a8 e.n8 e.c8 e.a9 e.n9 e.c9 e.C.tx e.C.n e.C.tg e.C.th e.C.via e.a.aA e.C.nA e.a.aC e.a.dA e.C.nD e.a.dC e.a.uA e.C.lv.nU e.a.uC e.a.kA e.C.lv.nK e.a.kC e.C.lv.d e.C.lv.x3 e.C.lv.x4 e.C.lv.x5 e.C.lv.x6 e.C.lv.x7 e.C.lv.x8 e.e26 e.e27 e.e28 e.C.al e.C.dn e.C.lv.U e.C.lv.K w hc h.b8 h.b9 h.s1 h.s2 h.s5 h.s27 h.tx h.via h.us
def Gr13 (n : Nat) (m : Int) (E : Nat → Evd) (e : Ending) : Prop := ∃ b, e = .returned (.bool b) ∧ (b = false → (n : Int) ≤ m ∧ ∀ j, j < n → Fe (E j))
theorem gr_true (n : Nat) (m : Int) (E : Nat → Evd) : Gr13 n m E (.returned (.bool true)) := ⟨true, rfl, fun e => by cases e⟩
theorem gr_false {n : Nat} {m : Int} {E : Nat → Evd} (h0 : (n : Int) ≤ m) (h : ∀ j, j < n → Fe (E j)) : Gr13 n m E (.returned (.bool false)) := ⟨false, rfl, fun _ => ⟨h0, h⟩⟩
set_option maxRecDepth 100000 in
set_option maxHeartbeats 2000000 in
theorem great13 (A : Option Addr) (n c : Nat) (m : Int) (E : Nat → Evd) (w : World) (h : Evx w A n E) :
    Calls Try.prog 18 #[.slice A n c, .int .i64 m] w fun e w' => Gr13 n m E e ∧ Below w.heap.size w w' := by
  have H := Lib.hid h
  have hbig := h.big
  clear h
  go_enter Try.func18, Try.ntmps18
  by_cases g1 : m < (n : Int)
  · go_wp2
    go_ret
    exact ⟨gr_true _ _ _, Below.refl _ _⟩
  have HG := Lib.hid (show (n : Int) ≤ m by omega)
  go_wp2
  clear g1
  go_loopg [5] n (fun gg s5 wr => ∃ kk : Nat, kk ≤ n ∧ n - kk ≤ gg ∧ s5 = .int .i64 kk ∧ Hid (∀ j, j < kk → Fe (E j)) ∧ Hid (Below w.heap.size w wr))
  case atStart => exact ⟨0, Nat.zero_le _, by omega, rfl, Lib.hid (fun j hj => absurd hj (Nat.not_lt_zero _)), Lib.hid (Below.refl _ _)⟩
  case round =>
    obtain ⟨kk, hkk, hg, rfl, HO, BW⟩ := hrel
    by_cases hlt : kk < n
    · have hltz : (kk : Int) < (n : Int) := by omega
      obtain ⟨b, off, rfl, R⟩ := (H.out.below BW.out).get hlt
      have HL := Lib.hid (long19e (E kk) wr ((H.out.below BW.out).ct kk hlt) (H.out.wf kk hlt))
      go_wp2_with (first
        | (refine load_mid_g (by rfl) 34 _ rfl b (off + kk * 29) rfl (cellsE (E kk)) _ R.out Try.underlying34 rfl size39 ?_)
        | (go_at_call 10; (with_reducible refine HL.out.mono ?_); rintro e w3 ⟨⟨q, rfl, hq⟩, hb3⟩; have HQ := Lib.hid hq; have BZ := Lib.hid (BW.out.trans (hb3.mono BW.out.size)); clear hq hb3))
      · go_ret
        exact ⟨gr_true _ _ _, BZ.out⟩
      · go_roundg (n - (kk + 1))
        case measure => omega
        case rel =>
          refine ⟨kk + 1, by omega, by omega, by go_num, Lib.hid (fun j hj => ?_), BZ⟩
          by_cases e : j = kk
          · subst e; exact HQ.out (by first | rfl | assumption | simp_all)
          · exact HO.out j (by omega)
    · have hltz : ¬ (kk : Int) < (n : Int) := by omega
      go_wp2
      go_ret
      exact ⟨gr_false HG.out (fun j hj => HO.out j (by omega)), BW.out⟩
end Go.Proofs.Ytbedibiodlgegaa
