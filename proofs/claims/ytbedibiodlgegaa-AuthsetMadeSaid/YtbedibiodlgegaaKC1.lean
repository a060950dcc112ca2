/- Lists of texts as rows; their copies. No condition. -/
import Derived.Test.YtbedibiodlgegaaLC
import Derived.Test.YtbedibiodlgegaaIW6
namespace Go.Proofs.Ytbedibiodlgegaa
open Go.RowKit
set_option linter.unusedVariables false

theorem info9k : (Try.prog.info? 9).map (fun i => (i.zero, i.size, i.bytes)) = some (some (.string ByteArray.empty), 1, 16) := by kernel_rfl
set_option maxHeartbeats 1000000 in
theorem clone27 (A : Option Addr) (n c : Nat) (L : Nat → List Value) (w : World) (h : Rws w A n c 1 L) (hb : n * 16 ≤ 140737488355328) :
    Calls Try.prog 64 #[.slice A n c] w fun e w' => ∃ A' c', e = .returned (.slice A' n c') ∧ CopyR w w' 9 1 n L A' c' := by
  obtain ⟨i0, hi, hz0, hz1, hz2⟩ := info_parts info9k
  have HI := Lib.hid (And.intro hi (And.intro hz0 (And.intro hz1 hz2)))
  clear hi hz0 hz1 hz2
  have kn := fun (w : World) (a : Option Addr) (n c n' c' : Nat) => Lib.run_eql_slice_nil (P := Try.prog) w 24 9 a n c n' c' Try.underlying24
  cases A with
  | none =>
    obtain ⟨rfl, rfl⟩ := h.nil rfl
    clear h HI hb
    go_enter Try.func64, Try.ntmps64
    go_wp2
    go_ret
    exact ⟨none, 0, rfl, clone_nil w 9 1 L⟩
  | some ad =>
    have HS := Lib.hid (h.src.below ((Below.refl _ w).alloc (Nat.le_refl _) (.cells #[] 9)))
    have HO := Lib.hid (World.ownsRow_made (base := w.heap.size) (e := 9) (size := 1) w #[] 0 (Nat.le_refl _) (by decide) (by simp))
    clear h
    go_enter Try.func64, Try.ntmps64
    go_wp2_with (at_builtin; refine wpList_append_any _ rfl _ _ 24 rfl w.heap.size 9 i0 _ 1 16 Try.underlying24 HI.out.1 HI.out.2.1 HI.out.2.2.1 HI.out.2.2.2 rfl (by decide) _ 0 [] rfl HO.out (some ad) n c (flat n L) rfl HS.out (by unfold maxLen; omega) (by omega) (by simp) ?_; intro v3 w3 hgr; have HX := Lib.hid (clone_grew hgr); clear hgr)
    go_ret
    obtain ⟨A', c', rfl, hc⟩ := HX.out
    exact ⟨A', c', rfl, hc⟩

def rowS (zs : List ByteArray) (j : Nat) : List Value := [.string (zs.getD j ByteArray.empty)]
/-- The slice at A has n texts, which are zs. -/
structure Txs (w : World) (A : Option Addr) (n c : Nat) (zs : List ByteArray) : Prop where
  rws : Rws w A n c 1 (rowS zs)
  len : zs.length = n
  cap : n ≤ c
  fit : ∀ s ∈ zs, s.size ≤ 9223372036854775807
theorem Txs.below {w w1 : World} {A : Option Addr} {n c : Nat} {zs : List ByteArray} (h : Txs w A n c zs) (hb : Below w.heap.size w w1) : Txs w1 A n c zs := ⟨h.rws.below hb, h.len, h.cap, h.fit⟩
theorem Txs.strs {w : World} {A : Option Addr} {n c : Nat} {zs : List ByteArray} (h : Txs w A n c zs) : Strs w A n zs := by
  refine ⟨h.len, h.rws.big, h.fit, fun h0 => ?_⟩
  rcases h.rws.at_ with h1 | ⟨b, off, e, hlt, hc⟩
  · omega
  · exact ⟨b, off, e, hlt, fun i hi => by have := hc i hi 0 _ rfl; rw [Nat.mul_one, Nat.add_zero] at this; exact this⟩
theorem Txs.get {w : World} {A : Option Addr} {n c : Nat} {zs : List ByteArray} (h : Txs w A n c zs) {k : Nat} (hk : k < n) : ∃ b off, A = some ⟨b, off, none⟩ ∧ ∃ t : ByteArray, zs.getD k ByteArray.empty = t ∧ t.size ≤ 9223372036854775807 ∧ w.cell? ⟨b, off + k, none⟩ = some (.string t) := by
  obtain ⟨b, off, ha, t, ht, hs, _, hc⟩ := h.strs.str hk
  exact ⟨b, off, ha, t, ht.symm, hs, hc⟩
theorem Txs.nil (w : World) : Txs w none 0 0 [] := ⟨Rws.zero _ _ _ _ _ (fun _ => rfl), rfl, Nat.le_refl _, by simp⟩
theorem CopyR.txs {w w' : World} {n c c0 : Nat} {zs : List ByteArray} {A A0 : Option Addr} {w0 : World} (h : CopyR w w' 9 1 n (rowS zs) A c) (h0 : Txs w0 A0 n c0 zs) : Txs w' A n c zs := by
  refine ⟨h.rows h0.rws, h0.len, ?_, h0.fit⟩
  rcases h.own.2 with ⟨hv, h1⟩ | ⟨g, cap, cur, hv, _, _, hnc, _⟩
  · omega
  · simp only [Value.slice.injEq, true_and] at hv
    rw [hv.2]; exact hnc
/-- A content. -/
structure Ct where
  tx : ByteArray
  n : Int
  tg : Int
  th : Bool
  via : ByteArray
  nA : Nat
  al : List ByteArray
  nD : Nat
  dn : List ByteArray
  lv : Lvl
/-- Its cells. -/
abbrev ctc (tx : ByteArray) (n tg : Int) (th : Bool) (via : ByteArray) (aA : Option Addr) (nA aC : Nat) (dA : Option Addr) (nD dC : Nat) (uA : Option Addr) (nU uC : Nat) (kA : Option Addr) (nK kC : Nat) (d x3 x4 x5 x6 x7 x8 : Int) : List Value :=
  [.string tx, .int .i64 n, .int .i64 tg, .bool th, .string via, .slice aA nA aC, .slice dA nD dC, .slice uA nU uC, .slice kA nK kC, .int .i64 d, .int .i64 x3, .int .i64 x4, .int .i64 x5, .int .i64 x6, .int .i64 x7, .int .i64 x8]
/-- Where its lists lie. -/
structure Ads where
  aA : Option Addr
  aC : Nat
  dA : Option Addr
  dC : Nat
  uA : Option Addr
  uC : Nat
  kA : Option Addr
  kC : Nat
abbrev cells (C : Ct) (a : Ads) : List Value := ctc C.tx C.n C.tg C.th C.via a.aA C.nA a.aC a.dA C.nD a.dC a.uA C.lv.nU a.uC a.kA C.lv.nK a.kC C.lv.d C.lv.x3 C.lv.x4 C.lv.x5 C.lv.x6 C.lv.x7 C.lv.x8
/-- What stands behind them. -/
structure IsCt (w : World) (C : Ct) (a : Ads) : Prop where
  al : Txs w a.aA C.nA a.aC C.al
  dn : Txs w a.dA C.nD a.dC C.dn
  us : Rws w a.uA C.lv.nU a.uC 2 (rowU C.lv.U)
  ks : Rws w a.kA C.lv.nK a.kC 2 (rowK C.lv.K)
theorem IsCt.below {w w1 : World} {C : Ct} {a : Ads} (h : IsCt w C a) (hb : Below w.heap.size w w1) : IsCt w1 C a := ⟨h.al.below hb, h.dn.below hb, h.us.below hb, h.ks.below hb⟩
theorem size28c : (Try.prog.info? 30).map (·.size) = some 16 := by kernel_rfl
theorem ctc_one (C : Ct) (a : Ads) : (cells C a).toArray.all (·.oneCell') = true := by simp [Value.oneCell']
/-- The empty content. -/
def ct0 : Ct := ⟨⟨#[]⟩, 0, 0, false, ⟨#[]⟩, 0, [], 0, [], ⟨0, fun _ => (⟨#[]⟩, 0), 0, fun _ => (0, 0), 0, 0, 0, 0, 0, 0, 0⟩⟩
def ad0 : Ads := ⟨none, 0, none, 0, none, 0, none, 0⟩
theorem ct0_is (w : World) : IsCt w ct0 ad0 := ⟨Txs.nil w, Txs.nil w, Rws.zero _ _ _ _ _ (fun _ => rfl), Rws.zero _ _ _ _ _ (fun _ => rfl)⟩
end Go.Proofs.Ytbedibiodlgegaa
