/- Who may invite, in a room without a power event. -/
import Derived.Test.YtmgjmcpkoaacjaaW6
import Derived.Deep.QuietTactic
import Derived.WalkSmall
namespace Go.Proofs.Ytmgjmcpkoaacjaa
open Go.RowKit
set_option linter.unusedVariables false

theorem UserPost.one {U : Nat → ByteArray × Int} {u : ByteArray} {n : Nat} {d r s : Int} (h : UserPost U u n d r) (k : UserPost U u n d s) : r = s := by
  rcases h with ⟨i, hi, gi, li, rfl⟩ | ⟨hn, rfl⟩ <;> rcases k with ⟨j, hj, gj, lj, rfl⟩ | ⟨kn, rfl⟩
  · rcases Nat.lt_trichotomy i j with h | h | h
    · rw [lj i h] at gi; cases gi
    · rw [h]
    · rw [li j h] at gj; cases gj
  · rw [kn i hi] at gi; cases gi
  · rw [hn j hj] at gj; cases gj
  · rfl
theorem user_is (g : Nat) (s u : ByteArray) (r : Int) (w : World) (hg : g < w.heap.size) (h0 : w.cell? ⟨g, 0, none⟩ = some (.string s)) (h1 : w.cell? ⟨g, 1, none⟩ = some (.int .i64 100)) (hr : UserPost (fun _ => (s, 100)) u 1 0 r) :
    Calls Try.prog 21 #[lv g, .string u] w fun e w' => e = .returned (.int .i64 r) ∧ Below w.heap.size w w' :=
  (user_any g 0 1 1 (fun _ => (s, 100)) (.slice none 0 0) 0 0 0 0 50 50 50 u w ⟨hg, by omega, fun j hj => by obtain rfl : j = 0 := (by omega); exact h0, fun j hj => by obtain rfl : j = 0 := (by omega); exact h1⟩ ⟨_, _, _, rfl⟩).mono
    fun e w' ⟨q, he, hq, hb⟩ => ⟨by rw [he, hq.one hr], hb⟩

set_option maxHeartbeats 2000000 in
/-- NOT A MEMBER: he may not. -/
theorem via_no (b off n c : Nat) (E : Nat → Ev) (s u : ByteArray) (i : Nat) (m : Int) (w : World) (hE : Evs w b off n E) (hi : i < n) (h1 : FirstPost E 1 n i) (h3 : FirstPost E 3 n (-1)) (hs : (E i).snd = s) (hn : (s.toList == []) = false)
    (hm : MemPost E u n m) (hm3 : m ≠ 3) :
    Calls Try.prog 16 #[.slice (some ⟨b, off, none⟩) n c, .string u] w fun e w' => e = .returned (.int .i64 21) ∧ Below w.heap.size w w' := by
  have HE := Lib.hid hE
  have HL := Lib.hid (levels_none b off n c E s i w hE hi h1 h3 hs hn)
  have HM := Lib.hid hm
  have qm : (m != 3) = true := by simpa using hm3
  clear hE hi h1 h3 hs hn hm hm3
  go_enter Try.func16, Try.ntmps16
  go_upto_region 2 with (go_at_call 19; refine HL.out.mono ?_; rintro e w1 ⟨g, rfl, hl⟩; have HLv := Lib.hid hl; have HE1 := Lib.hid ((HE.out.below hl.2.2.2.2.2).below (Below.alloc (Below.refl w1.heap.size w1) (Nat.le_refl _) (.cells (lvs g).toArray 28))); have HB := Lib.hid (Below.alloc hl.2.2.2.2.2 hl.2.2.2.2.2.size (.cells (lvs g).toArray 28)); clear hl)
  generalize (w1.alloc _) = w2 at HE1 HB ⊢
  go_quiet ((go_at_call 20; refine (member_is b off n c E u m _ (HE1.out.below (below_drewN (Below.refl _ w2) _)) HM.out).mono ?_; rintro e w' ⟨rfl, rfl⟩; exact ⟨rfl, _, rfl⟩))
  all_goals go_wp2
  all_goals go_ret
  all_goals exact ⟨rfl, below_drewN HB.out _⟩

end Go.Proofs.Ytmgjmcpkoaacjaa
