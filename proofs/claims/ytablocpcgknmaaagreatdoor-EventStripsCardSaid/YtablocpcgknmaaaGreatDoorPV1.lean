/- Lists of numbers and events as data. No condition. -/
import Derived.Test.YtablocpcgknmaaaGreatDoorPK14
namespace Go.Proofs.YtablocpcgknmaaaGreatDoor
open Go Go.RowKit
set_option linter.unusedVariables false
set_option linter.unusedSimpArgs false
set_option maxRecDepth 100000

def rowI (l : List Int) (j : Nat) : List Value := [.int .i64 (l.getD j 0)]
/-- A list of numbers in memory. -/
structure Ins (w : World) (A : Option Addr) (n c : Nat) (l : List Int) : Prop where
  rws : Rws w A n c 1 (rowI l)
  len : l.length = n
  cap : n ≤ c
  fit : ∀ z ∈ l, i64B z
theorem Ins.below {w w1 : World} {A : Option Addr} {n c : Nat} {l : List Int} (h : Ins w A n c l) (hb : Below w.heap.size w w1) : Ins w1 A n c l := ⟨h.rws.below hb, h.len, h.cap, h.fit⟩
theorem Ins.other {w : World} {A : Option Addr} {n c : Nat} {l : List Int} (h : Ins w A n c l) (a : Addr) (v : Value) (hne : 0 < n → ∀ b off, A = some ⟨b, off, none⟩ → b ≠ a.block) : Ins (w.setCell a v) A n c l := ⟨h.rws.other a v hne, h.len, h.cap, h.fit⟩
theorem Ins.otherAll {w : World} {A : Option Addr} {n c : Nat} {l : List Int} (h : Ins w A n c l) (g o : Nat) (vs : List Value) (hne : 0 < n → ∀ b off, A = some ⟨b, off, none⟩ → b ≠ g) : Ins (w.setCells g o vs) A n c l := ⟨h.rws.otherAll g o vs hne, h.len, h.cap, h.fit⟩
theorem Ins.nil (w : World) : Ins w none 0 0 [] := ⟨Rws.zero _ _ _ _ _ (fun _ => rfl), rfl, Nat.le_refl _, by simp⟩
theorem Ins.get {w : World} {A : Option Addr} {n c : Nat} {l : List Int} (h : Ins w A n c l) {k : Nat} (hk : k < n) : ∃ b off, A = some ⟨b, off, none⟩ ∧ b < w.heap.size ∧ w.cell? ⟨b, off + k, none⟩ = some (.int .i64 (l.getD k 0)) := by
  obtain ⟨b, off, e, hb, hc⟩ := h.rws.get hk
  refine ⟨b, off, e, hb, ?_⟩
  have := hc 0 _ rfl
  rwa [Nat.mul_one, Nat.add_zero] at this
/-- An event. -/
structure Ew where
  id : Int
  rm : ByteArray
  sd : ByteArray
  kd : Int
  st : Bool
  ky : ByteArray
  tm : Int
  dp : Int
  pv : List Int
  au : List Int
  c : Cn
  hs : Int
  sv : ByteArray
  sm : Int
/-- Where its lists lie. -/
structure Aw where
  pA : Option Addr
  pC : Nat
  qA : Option Addr
  qC : Nat
  c : Ads
abbrev ecs (E : Ew) (a : Aw) : List Value := [.int .i64 E.id, .string E.rm, .string E.sd, .int .i64 E.kd, .bool E.st, .string E.ky, .int .i64 E.tm, .int .i64 E.dp, .slice a.pA E.pv.length a.pC, .slice a.qA E.au.length a.qC, .string E.c.tx, .int .i64 E.c.n, .int .i64 E.c.tg, .bool E.c.th, .string E.c.via, .slice a.c.aA E.c.al.length a.c.aC, .slice a.c.dA E.c.dn.length a.c.dC, .slice a.c.uA E.c.us.length a.c.uC, .slice a.c.kA E.c.ks.length a.c.kC, .int .i64 E.c.d, .int .i64 E.c.x3, .int .i64 E.c.x4, .int .i64 E.c.x5, .int .i64 E.c.x6, .int .i64 E.c.x7, .int .i64 E.c.x8, .int .i64 E.hs, .string E.sv, .int .i64 E.sm]
structure IsE (w : World) (E : Ew) (a : Aw) : Prop where
  pv : Ins w a.pA E.pv.length a.pC E.pv
  au : Ins w a.qA E.au.length a.qC E.au
  c : IsC w E.c a.c
  rm : E.rm.size ≤ 9223372036854775807
  sd : E.sd.size ≤ 9223372036854775807
  ky : E.ky.size ≤ 9223372036854775807
  sv : E.sv.size ≤ 9223372036854775807
  id : i64B E.id
  kd : i64B E.kd
  tm : i64B E.tm
  dp : i64B E.dp
  hs : i64B E.hs
  sm : i64B E.sm
theorem IsE.below {w w1 : World} {E : Ew} {a : Aw} (h : IsE w E a) (hb : Below w.heap.size w w1) : IsE w1 E a := { h with pv := h.pv.below hb, au := h.au.below hb, c := h.c.below hb }
theorem size34 : (Tryz.prog.info? 34).map (·.size) = some 29 := by kernel_rfl
theorem size32 : (Tryz.prog.info? 32).map (·.size) = some 2 := by kernel_rfl
theorem ecs_one (E : Ew) (a : Aw) : (ecs E a).toArray.all (·.oneCell') = true := by simp [Value.oneCell']
/-- The event with another content. -/
def Ew.wc (E : Ew) (C : Cn) : Ew := { E with c := C }
def Aw.wc (a : Aw) (x : Ads) : Aw := { a with c := x }
def e0 : Ew := ⟨0, ⟨#[]⟩, ⟨#[]⟩, 0, false, ⟨#[]⟩, 0, 0, [], [], c0, 0, ⟨#[]⟩, 0⟩
def aw0 : Aw := ⟨none, 0, none, 0, ad0⟩
theorem e0_is (w : World) : IsE w e0 aw0 := ⟨Ins.nil w, Ins.nil w, c0_is w, by decide, by decide, by decide, by decide, by unfold i64B; decide, by unfold i64B; decide, by unfold i64B; decide, by unfold i64B; decide, by unfold i64B; decide, by unfold i64B; decide⟩
end Go.Proofs.YtablocpcgknmaaaGreatDoor
