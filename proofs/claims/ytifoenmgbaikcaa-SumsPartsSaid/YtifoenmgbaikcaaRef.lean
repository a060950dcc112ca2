/- The walks of the reference's `Digit`, `Hex` and `Unhex`. Conditions: `Digit`'s argument is a byte; a text that is read has at most 2 to the 63rd minus 1 bytes. -/
import Derived.Test.YtifoenmgbaikcaaMath3
import Derived.Test.YtifoenmgbaikcaaLives
namespace Go.Proofs.Ytifoenmgbaikcaa
open Go.RowKit
set_option linter.unusedVariables false

set_option maxHeartbeats 400000 in
theorem rdigit_any (b : Int) (h0 : 0 ≤ b) (h1 : b ≤ 255) (w : World) :
    Calls Try.prog 23 #[.int .u8 b] w fun e w' => e = .returned (.int .i64 (M.rdig b)) ∧ w = w' := by
  by_cases ha : 48 ≤ b
  · have g1 : decide (48 ≤ b) = true := by simpa using ha
    by_cases hb : b ≤ 57
    · have g2 : decide (b ≤ 57) = true := by simpa using hb
      go_enter Try.func23, Try.ntmps23
      go_wp2
      go_ret
      exact ⟨ret_i64 (M.rdig_num b ⟨ha, hb⟩), rfl⟩
    · have g2 : decide (b ≤ 57) = false := by simpa using hb
      by_cases hc : 97 ≤ b
      · have g3 : decide (97 ≤ b) = true := by simpa using hc
        by_cases hd : b ≤ 102
        · have g4 : decide (b ≤ 102) = true := by simpa using hd
          go_enter Try.func23, Try.ntmps23
          go_wp2
          go_ret
          exact ⟨ret_i64 (M.rdig_let b ⟨hc, hd⟩), rfl⟩
        · have g4 : decide (b ≤ 102) = false := by simpa using hd
          go_enter Try.func23, Try.ntmps23
          go_wp2
          go_ret
          exact ⟨ret_i64 (M.rdig_no b (by omega) (by omega)), rfl⟩
      · have g3 : decide (97 ≤ b) = false := by simpa using hc
        go_enter Try.func23, Try.ntmps23
        go_wp2
        go_ret
        exact ⟨ret_i64 (M.rdig_no b (by omega) (by omega)), rfl⟩
  · have g1 : decide (48 ≤ b) = false := by simpa using ha
    have g3 : decide (97 ≤ b) = false := by simp; omega
    go_enter Try.func23, Try.ntmps23
    go_wp2
    go_ret
    exact ⟨ret_i64 (M.rdig_no b (by omega) (by omega)), rfl⟩

theorem conv_one (c : Int) (w1 : World) : (convert 22 9 (.slice (some ⟨w1.heap.size, 0, none⟩) 1 1)).run Try.prog (w1.alloc (.cells #[.int .u8 c] 5)) = .ok (.string (strOfNums [c])) (w1.alloc (.cells #[.int .u8 c] 5)) := by
  refine run_convert_bytes_arg _ 22 5 Try.underlying22 Try.underlying5 w1.heap.size 0 1 1 [c] rfl (fun i hi => ?_) 9 Try.underlying9
  obtain rfl : i = 0 := by omega
  exact newc _ _ _ _ _ rfl

theorem str_cons (c : Int) (l : List Int) : strOfNums [c] ++ strOfNums l = strOfNums (c :: l) := by
  apply ByteArray.ext
  simp [strOfNums]

theorem dgl_drop (m k : Nat) (hk : k < 16) : (M.dgl m).drop (16 - (k + 1)) = M.hexd ((m / 16 ^ k % 16 : Nat) : Int) :: (M.dgl m).drop (16 - k) := by
  have hl : (M.dgl m).length = 16 := rfl
  have e : M.dgl m = (List.range 16).map (M.dg m) := by simp [M.dgl, List.range, List.range.loop]
  have h1 : 16 - (k + 1) < (M.dgl m).length := by omega
  rw [List.drop_eq_getElem_cons h1, show 16 - (k + 1) + 1 = 16 - k from by omega]
  congr 1
  simp only [e, List.getElem_map, List.getElem_range]
  unfold M.dg
  rw [show 15 - (16 - (k + 1)) = k from by omega]

set_option maxHeartbeats 800000 in
theorem rhex_any (n : Int) (w : World) :
    Calls Try.prog 17 #[.int .i64 n] w fun e w' => e = .returned (.string (M.hex (M.lo n))) ∧ Below w.heap.size w w' := by
  have hnn := M.wrap_nonneg n
  have hconv := conv_one
  go_enter Try.func17, Try.ntmps17
  go_wp2
  clear hnn
  have hs0 := M.lo_lt n
  go_loopw [3, 4, 5, 6, 7] (fun u s i _ _ wr => ∃ k : Nat, k ≤ 16 ∧ i = .int .i64 k ∧ u = .int .u64 ((M.lo n / 16 ^ k : Nat) : Int) ∧ s = .string (strOfNums ((M.dgl (M.lo n)).drop (16 - k))) ∧ Below w.heap.size w wr) (fun _ _ i _ _ _ => 16 - (intOf i).toNat)
  case atStart => exact ⟨0, Nat.zero_le _, rfl, by rw [M.wrap_mod]; simp, by rw [List.drop_of_length_le (by exact Nat.le_refl 16)]; rfl, Below.refl _ _⟩
  case round =>
    obtain ⟨k, hk, rfl, rfl, rfl, hb⟩ := hrel
    by_cases hlt : k < 16
    · have hq : (((M.lo n / 16 ^ k : Nat) : Int)) ≤ 4611686018427387903 := by
        have := Nat.div_le_self (M.lo n) (16 ^ k); omega
      have hdiv : ((M.lo n / 16 ^ k : Nat) : Int) / 16 = ((M.lo n / 16 ^ (k + 1) : Nat) : Int) := by
        rw [Nat.pow_succ, ← Nat.div_div_eq_div_mul]; rfl
      have hdr := dgl_drop (M.lo n) k hlt
      have hsz : (strOfNums ((M.dgl (M.lo n)).drop (16 - k))).size ≤ 16 := by
        rw [strOfNums_size, List.length_drop]; show 16 - (16 - k) ≤ 16; omega
      generalize (M.dgl (M.lo n)).drop (16 - k) = l at *
      have Hdr := Lib.hid hdr
      have Hdiv := Lib.hid hdiv
      clear hdr hdiv
      generalize M.lo n / 16 ^ k = q at *
      have hone : ∀ c : Int, (strOfNums [c]).size = 1 := fun c => by rw [strOfNums_size]; rfl
      by_cases h10 : q % 16 < 10
      · have Hh : Hid (48 + (q : Int) % 16 = M.hexd ((q % 16 : Nat) : Int)) := M.hexd_lo ((q % 16 : Nat) : Int) (by omega)
        go_wp2
        go_roundw
        case rel => exact ⟨k + 1, by omega, by go_num, by rw [Hdiv.out], by rw [Hdr.out, ← str_cons (M.hexd _) l, Hh.out], hb.alloc hb.size _⟩
        case measure => simp [intOf]; omega
      · have Hh : Hid (97 + (q : Int) % 16 - 10 = M.hexd ((q % 16 : Nat) : Int)) := M.hexd_hi ((q % 16 : Nat) : Int) (by omega)
        go_wp2
        go_roundw
        case rel => exact ⟨k + 1, by omega, by go_num, by rw [Hdiv.out], by rw [Hdr.out, ← str_cons (M.hexd _) l, Hh.out], hb.alloc hb.size _⟩
        case measure => simp [intOf]; omega
    · have hke : k = 16 := by omega
      subst hke
      clear hlt hk
      go_wp2
      go_ret
      exact ⟨rfl, hb⟩

theorem bys_bd (s : ByteArray) : ∀ z ∈ bys s, 0 ≤ z ∧ z ≤ 255 := by
  intro z hz
  simp only [bys, List.mem_map] at hz
  obtain ⟨c, _, rfl⟩ := hz
  have := c.toNat_lt
  omega

set_option maxHeartbeats 400000 in
theorem runhex_no (s : ByteArray) (hs : s.size ≤ 9223372036854775807) (hn : s.size ≠ 16) (w : World) :
    Calls Try.prog 18 #[.string s] w fun e w' => e = .returned (.tuple #[.int .i64 0, .bool false]) ∧ w = w' := by
  have hb : ((s.size : Int) != 16) = true := by rw [bne_iff_ne]; omega
  clear hn
  go_enter Try.func18, Try.ntmps18
  go_wp2
  go_ret2
  exact ⟨rfl, rfl⟩

theorem unh_no (s : ByteArray) (h : ¬ M.ok (bys s)) : unh s = .tuple #[.int .i64 0, .bool false] := by
  unfold unh; rw [if_neg (fun e => h ((M.ok_iff _).1 e))]
theorem unh_yes (s : ByteArray) (h : M.ok (bys s)) : unh s = .tuple #[.int .i64 ((M.np (M.dn (bys s)) : Nat) : Int), .bool true] := by
  unfold unh; rw [if_pos ((M.ok_iff _).2 h), (M.ok_lo h).1]

set_option maxHeartbeats 800000 in
theorem runhex_yes (s : ByteArray) (hn : s.size = 16) (w : World) :
    Calls Try.prog 18 #[.string s] w fun e w' => e = .returned (unh s) ∧ w = w' := by
  have hb : ((s.size : Int) != 16) = false := by rw [bne_eq_false_iff_eq]; omega
  have hs : s.size ≤ 16 := by omega
  have h0s : 0 < s.size := by omega
  have hL : (bys s).length = 16 := by rw [bys_len, hn]
  have hg0 := bys_get s 0 h0s
  have hc00 : (0 : Int) ≤ (s[0].toNat : Int) := by omega
  have hc01 : (s[0].toNat : Int) ≤ 255 := by have := s[0].toNat_lt; omega
  have Hn := Lib.hid hn
  have HL := Lib.hid hL
  have Hg0 := Lib.hid hg0
  clear hn hL hg0
  by_cases h3 : 3 < M.rdig (s[0].toNat : Int)
  · have Hf := Lib.hid (unh_no s (fun h => by have := h.2.2; rw [Hg0.out] at this; omega))
    go_enter Try.func18, Try.ntmps18
    go_wp2_with (go_at_call 23; refine (rdigit_any _ (by omega) (by omega) _).mono ?_; rintro e w' ⟨rfl, rfl⟩)
    go_ret2
    exact ⟨by rw [Hf.out]; rfl, rfl⟩
  · have h3 : M.rdig (s[0].toNat : Int) ≤ 3 := by omega
    have h3' : M.rdig ((bys s).getD 0 0) ≤ 3 := by rw [Hg0.out]; exact h3
    have H3 := Lib.hid h3'
    clear h3'
    go_enter Try.func18, Try.ntmps18
    go_wp2_with (go_at_call 23; refine (rdigit_any _ (by omega) (by omega) _).mono ?_; rintro e w' ⟨rfl, rfl⟩)
    go_loop [4, 5, 6] (fun u i _ => ∃ k : Nat, k ≤ 16 ∧ i = .int .i64 k ∧ u = .int .i64 ((M.np (M.dn ((bys s).take k)) : Nat) : Int) ∧ ∀ b ∈ (bys s).take k, 0 ≤ M.rdig b) (fun _ i _ => 16 - (intOf i).toNat)
    case atStart => exact ⟨0, Nat.zero_le _, rfl, by rw [List.take_zero]; rfl, by simp⟩
    case round =>
      obtain ⟨k, hk, rfl, rfl, hall⟩ := hrel
      have Hall := Lib.hid hall
      clear hall
      by_cases hlt : k < 16
      · have hks : k < s.size := by have := Hn.out; omega
        have hg := bys_get s k hks
        have hsn := M.dn_snoc (bys s) k (by rw [HL.out]; exact hlt)
        have hbd := M.pre_lt HL.out H3.out (k + 1)
        have hc0 : (0 : Int) ≤ (s[k].toNat : Int) := by omega
        have hc1 : (s[k].toNat : Int) ≤ 255 := by have := s[k].toNat_lt; omega
        have hrl := M.rdig_lt (s[k].toNat : Int)
        rw [hg] at hsn
        rw [hsn] at hbd
        have Hg := Lib.hid hg
        have Hsn := Lib.hid hsn
        clear hsn hg
        by_cases hneg : M.rdig (s[k].toNat : Int) < 0
        · have Hf := Lib.hid (unh_no s (fun h => by
            have hm : (bys s).getD k 0 ∈ bys s := by
              rw [List.getD_eq_getElem?_getD, List.getElem?_eq_getElem (by rw [HL.out]; exact hlt)]; simp
            have := h.2.1 _ hm
            rw [Hg.out] at this
            omega))
          clear hbd
          go_wp2_with (go_at_call 23; refine (rdigit_any _ (by omega) (by omega) _).mono ?_; rintro e w' ⟨rfl, rfl⟩)
          go_ret2
          exact ⟨by rw [Hf.out]; rfl, rfl⟩
        · have hpos : 0 ≤ M.rdig (s[k].toNat : Int) := by omega
          have hnp : ((M.np (M.dn ((bys s).take k)) : Nat) : Int) * 16 + M.rdig (s[k].toNat : Int) ≤ 4611686018427387903 := by omega
          clear hbd hneg
          go_wp2_with (go_at_call 23; refine (rdigit_any _ (by omega) (by omega) _).mono ?_; rintro e w' ⟨rfl, rfl⟩)
          go_round
          case rel =>
            refine ⟨k + 1, by omega, by go_num, ?_, ?_⟩
            · rw [Hsn.out]; congr 1; omega
            · rw [List.take_succ_eq_append_getElem (by rw [HL.out]; exact hlt)]
              intro b hbm
              rcases List.mem_append.1 hbm with hbm | hbm
              · exact Hall.out b hbm
              · have e : (bys s)[k]'(by rw [HL.out]; exact hlt) = (bys s).getD k 0 := by
                  rw [List.getD_eq_getElem?_getD, List.getElem?_eq_getElem (by rw [HL.out]; exact hlt)]; rfl
                rw [List.mem_singleton] at hbm
                rw [hbm, e, Hg.out]; exact hpos
          case measure => simp [intOf]; omega
      · have hke : k = 16 := by omega
        subst hke
        have ht : (bys s).take 16 = bys s := List.take_of_length_le (by rw [HL.out]; exact Nat.le_refl _)
        have hall := Hall.out
        rw [ht] at hall ⊢
        have Hf := Lib.hid (unh_yes s ⟨HL.out, hall, H3.out⟩)
        clear hlt hk ht hall
        go_wp2
        go_ret2
        exact ⟨by rw [Hf.out]; rfl, rfl⟩

theorem hexd_bd (n : Int) (h0 : 0 ≤ n) (h1 : n < 16) : 0 ≤ M.hexd n ∧ M.hexd n ≤ 255 := by
  by_cases h : n < 10
  · rw [← M.hexd_lo n h]; omega
  · rw [← M.hexd_hi n (by omega)]; omega
theorem bys_strOf (l : List Int) (h : ∀ z ∈ l, 0 ≤ z ∧ z ≤ 255) : bys (strOfNums l) = l := by
  unfold bys strOfNums
  simp only [List.map_map]
  conv => rhs; rw [← List.map_id l]
  refine List.map_congr_left fun z hz => ?_
  have := h z hz
  simp only [Function.comp, id, UInt8.toNat_ofNat']
  omega
theorem strOf_bys (s : ByteArray) : strOfNums (bys s) = s := by
  apply ByteArray.ext
  apply Array.ext'
  unfold bys strOfNums
  simp only [List.map_map]
  conv => rhs; rw [← List.map_id s.data.toList]
  refine List.map_congr_left fun z hz => ?_
  simp
theorem dgl_bd (m : Nat) : ∀ z ∈ M.dgl m, 0 ≤ z ∧ z ≤ 255 := by
  intro z hz
  rw [M.dgl_dl, List.mem_map] at hz
  obtain ⟨d, hd, rfl⟩ := hz
  have := M.dl_lt 16 m d hd
  exact hexd_bd _ (by omega) (by omega)
theorem bys_hex (m : Nat) : bys (M.hex m) = M.dgl m := bys_strOf _ (dgl_bd m)
theorem hex_size (m : Nat) : (M.hex m).size = 16 := by unfold M.hex; rw [strOfNums_size]; rfl
theorem unh_hex (m : Nat) (hm : m < 4611686018427387904) : unh (M.hex m) = .tuple #[.int .i64 (m : Int), .bool true] := by
  unfold unh
  rw [bys_hex, M.ok_dgl m hm, if_pos rfl]
theorem unhex_hex (m : Nat) (hm : m < 4611686018427387904) (w : World) :
    Calls Try.prog 16 #[.string (M.hex m)] w fun e w' => e = .returned (.tuple #[.int .i64 (m : Int), .bool true]) ∧ Below w.heap.size w w' := by
  refine (unhex_yes _ (hex_size m) w).mono fun e w' ⟨he, hb⟩ => ⟨?_, hb⟩
  rw [he, unh_hex m hm]

theorem within_any (n : Int) (h0 : 0 ≤ n) (h1 : n < 4611686018427387904) (w : World) :
    Calls Try.prog 14 #[.int .i64 n] w fun e w' => e = .returned (.bool true) ∧ w = w' := by
  have g0 : decide (0 ≤ n) = true := by simpa using h0
  have g1 : decide (n < 4611686018427387904) = true := by simpa using h1
  go_enter Try.func14, Try.ntmps14
  go_wp2
  go_ret
  exact ⟨rfl, rfl⟩
end Go.Proofs.Ytifoenmgbaikcaa
