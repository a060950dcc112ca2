/- SessionsRenews: its walk. -/
import Derived.Test.YtbkchcpfnoclhaaV18
import Derived.Test.YtbkchcpfnoclhaaOA
namespace Go.Proofs.Ytbkchcpfnoclhaa
open Go Go.RowKit
set_option linter.unusedVariables false
set_option linter.unusedSimpArgs false
set_option maxRecDepth 100000

set_option maxHeartbeats 16000000 in
theorem renews_walk (S : Ses) (A : Option Addr) (c : Nat) (A1 : Option Addr) (n1 c1 : Nat) (ms : List ByteArray) (A2 : Option Addr) (n2 c2 : Nat) (K : Nat → Kd) (id : Int) (w : World) (h : Rcs w A S.l.length c S.l) (hrm : S.rm.size ≤ 9223372036854775807) (hm : Strs w A1 n1 ms) (hc1 : n1 ≤ c1) (hK : Kys w A2 n2 K) : Calls Try.prog 5 #[.agg #[.int .i64 S.id, .string S.rm, .int .i64 S.nx, .slice A S.l.length c], .agg #[.slice A1 n1 c1, .slice A2 n2 c2], .int .i64 id] w fun r w' => r = .returned (.bool true) ∧ Below w.heap.size w w' := by
  have XS := Lib.hid ((blk_new w (sC S.id S.rm S.nx A S.l.length c) 24).alloc (.cells #[.slice A1 n1 c1, .slice A2 n2 c2] 42))
  have XG := Lib.hid (blk_new2 w (.cells #[.int .i64 S.id, .string S.rm, .int .i64 S.nx, .slice A S.l.length c] 24) [.slice A1 n1 c1, .slice A2 n2 c2] 42)
  have BA := Lib.hid (((Below.refl w.heap.size w).alloc (Nat.le_refl _) (.cells #[.int .i64 S.id, .string S.rm, .int .i64 S.nx, .slice A S.l.length c] 24)).alloc (by simp) (.cells #[.slice A1 n1 c1, .slice A2 n2 c2] 42))
  have HG := Lib.hid (great9 S.id S.rm S.nx A c S.l 40 _ (h.below BA.out) hrm)
  have HM := Lib.hid (fun y (hb : Below w.heap.size w y) => many16 A1 n1 c1 ms A2 n2 c2 K y (hm.below hb) hm.2.1 (hK.below hb))
  have HW := Lib.hid (fun (h1 : n1 ≤ 1000) (h2 : n2 ≤ 900000) (hd : ∀ j, j < n2 → (K j).ds.length ≤ 900) y (hb : Below w.heap.size w y) => renew22 S.id S.rm S.nx A S.l.length c A1 n1 c1 ms A2 n2 c2 K id y (hm.below hb) hc1 h1 (hK.below hb) hd)
  have HV := Lib.hid (fun (h1 : n1 ≤ 1000) (h2 : n2 ≤ 900000) (hd : ∀ j, j < n2 → (K j).ds.length ≤ 900) y (hb : Below w.heap.size w y) => renew23 S.id S.rm S.nx A S.l.length c A1 n1 c1 ms A2 n2 c2 K id y (hm.below hb) h1 (hK.below hb) h2 hd)
  rw [shL_want] at HW
  have hml := Lib.hid hm.1
  unfold GreatP at HG
  unfold ManyP at HM
  unfold RenewP at HW HV
  generalize shL (holdL ms (dvI K n2)) 0 = lw at HW HV
  clear h hm hK hc1
  have g0 := XG.out.cell (i := 0) rfl
  have g1 := XG.out.cell (i := 1) rfl
  go_enter Try.func5, Try.ntmps5
  go_wp2_with (first
    | (refine wpList_load_mid rfl 24 _ rfl w.heap.size 0 rfl (sC S.id S.rm S.nx A S.l.length c) _ XS.out.range Try.underlying24 rfl size24 ?_)
    | (go_at_call 9; (with_reducible refine HG.out.mono ?_); rintro e w1 ⟨b, rfl, hgr, hb⟩; have G1 := Lib.hid hgr; have B1 := Lib.hid (BA.out.trans (hb.mono BA.out.size)); have S1 := Lib.hid (XS.out.below hb); have T1 := Lib.hid (XG.out.below hb); have g0 := T1.out.cell (i := 0) rfl; have g1 := T1.out.cell (i := 1) rfl; clear hgr hb; cases b)
    | (go_at_call 16; (with_reducible refine (HM.out _ B1.out).mono ?_); rintro e w2 ⟨b2, rfl, hmn, hb⟩; have M1 := Lib.hid hmn; have B2 := Lib.hid (B1.out.trans (hb.mono B1.out.size)); have S2 := Lib.hid (S1.out.below hb); have T2 := Lib.hid (T1.out.below hb); clear hmn hb; have h0 := T2.out.cell (i := 0) rfl; have h1 := T2.out.cell (i := 1) rfl; cases b2)
    | (refine wpList_load_mid rfl 24 _ rfl w.heap.size 0 rfl (sC S.id S.rm S.nx A S.l.length c) _ S2.out.range Try.underlying24 rfl size24 ?_)
    | (refine wpList_load_mid rfl 24 _ rfl w.heap.size 0 rfl (sC S.id S.rm S.nx A S.l.length c) _ S4.out.range Try.underlying24 rfl size24 ?_)
    | (refine wpList_load_mid rfl 24 _ rfl w3.heap.size 0 rfl (sC id S.rm 0 AX lw.length cX) _ X6.out.range Try.underlying24 rfl size24 ?_)
    | (refine wpList_load_mid rfl 24 _ rfl w5.heap.size 0 rfl (sC id S.rm 0 AP lw.length cP) _ Y6.out.range Try.underlying24 rfl size24 ?_)
    | (go_at_call 22; have MB := Lib.hid (M1.out (by first | rfl | trivial)); (with_reducible refine (HW.out (by have := MB.out.1; have := hml.out; omega) (by have := MB.out.2.1; omega) (fun j hj => by have := MB.out.2.2 j hj; omega) _ B2.out).mono ?_); rintro e w3 ⟨AX, cX, AY, cY, rfl, hr, hr2, hb⟩; have RX := Lib.hid hr; have RY := Lib.hid hr2; have B3 := Lib.hid (B2.out.trans (hb.mono B2.out.size)); have S3 := Lib.hid (S2.out.below hb); have T3 := Lib.hid (T2.out.below hb); clear hr hr2 hb h0 h1)
    | (refine store_as61 rfl 24 _ _ rfl [.int .i64 0, .string ⟨#[]⟩, .int .i64 0, .slice none 0 0] [.int .i64 id, .string S.rm, .int .i64 0, .slice AX lw.length cX] rfl rfl rfl size24 (by simp [Value.oneCell']) ?_; intro w4 hx hb; have X4 := Lib.hid hx; have RX4 := Lib.hid (RX.out.below hb); have RY4 := Lib.hid (RY.out.below hb); have B4 := Lib.hid (B3.out.trans (hb.mono B3.out.size)); have S4 := Lib.hid (S3.out.below hb); have T4 := Lib.hid (T3.out.below hb); have h0 := T4.out.cell (i := 0) rfl; have h1 := T4.out.cell (i := 1) rfl; clear hx hb)
    | (go_at_call 23; (with_reducible refine (HV.out (by have := MB.out.1; have := hml.out; omega) (by have := MB.out.2.1; omega) (fun j hj => by have := MB.out.2.2 j hj; omega) _ B4.out).mono ?_); rintro e w5 ⟨AP, cP, AQ, cQ, rfl, hr, hr2, hb⟩; have RP := Lib.hid hr; have RQ := Lib.hid hr2; have B5 := Lib.hid (B4.out.trans (hb.mono B4.out.size)); have X5 := Lib.hid (X4.out.below hb); have RX5 := Lib.hid (RX4.out.below hb); have RY5 := Lib.hid (RY4.out.below hb); clear hr hr2 hb h0 h1)
    | (refine store_as61 rfl 24 _ _ rfl [.int .i64 0, .string ⟨#[]⟩, .int .i64 0, .slice none 0 0] [.int .i64 id, .string S.rm, .int .i64 0, .slice AP lw.length cP] rfl rfl rfl size24 (by simp [Value.oneCell']) ?_; intro w6 hx hb; have Y6 := Lib.hid hx; have X6 := Lib.hid (X5.out.below hb); have RX6 := Lib.hid (RX5.out.below hb); have RY6 := Lib.hid (RY5.out.below hb); have RP6 := Lib.hid (RP.out.below hb); have RQ6 := Lib.hid (RQ.out.below hb); have B6 := Lib.hid (B5.out.trans (hb.mono B5.out.size)); have H12 := Lib.hid (same12 ⟨id, S.rm, 0, lw⟩ (.agg #[.int .i64 id, .string S.rm, .int .i64 0, .slice AX lw.length cX]) (.agg #[.int .i64 id, .string S.rm, .int .i64 0, .slice AP lw.length cP]) w6 ⟨AX, cX, rfl, RX6.out⟩ ⟨AP, cP, rfl, RP6.out⟩); clear hx hb)
    | (go_at_call 12; (with_reducible refine H12.out.mono ?_); rintro e w7 ⟨rfl, hb⟩; have B7 := Lib.hid (B6.out.trans (hb.mono B6.out.size)); have RY7 := Lib.hid (RY6.out.below hb); have RQ7 := Lib.hid (RQ6.out.below hb); clear hb)
    | (go_at_call 17; (with_reducible refine (same17 AY lw.length cY AQ lw.length cQ lw w7 RY7.out RQ7.out).mono ?_); rintro e w8 ⟨rfl, hb⟩; have B8 := Lib.hid (B7.out.trans (hb.mono B7.out.size)); clear hb)
    | (go_at_call 15; (with_reducible refine (live15 w8).mono ?_); rintro e w9 ⟨rfl, hb⟩; have B9 := Lib.hid (B8.out.trans (hb.mono B8.out.size)); clear hb)
    | go_in)
  all_goals go_ret
  all_goals first | exact ⟨rfl, B9.out⟩ | exact ⟨rfl, B2.out⟩ | exact ⟨rfl, B1.out⟩
end Go.Proofs.Ytbkchcpfnoclhaa
