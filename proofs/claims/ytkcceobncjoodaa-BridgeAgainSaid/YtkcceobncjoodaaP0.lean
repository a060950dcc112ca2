/- Identities of other networks: the escaped form of a name, and its way back. Plain lists of bytes; no program. -/
import Derived.Test.YtkcceobncjoodaaIM
import Derived.IntWalk
namespace Go.Proofs.Ytkcceobncjoodaa
set_option linter.unusedVariables false
set_option linter.unusedSimpArgs false
namespace E

/-- All numbers of a list are bytes. -/
def Byt (l : List Int) : Prop := ∀ c ∈ l, 0 ≤ c ∧ c ≤ 255
def hexd (n : Int) : Int := if n < 10 then 48 + n else 87 + n
def escB (c : Int) : List Int := if I.letB c then [c] else [61, hexd (c / 16), hexd (c % 16)]
def esc (l : List Int) : List Int := l.flatMap escB
theorem esc_nil : esc [] = [] := rfl
theorem esc_cons (c : Int) (l : List Int) : esc (c :: l) = escB c ++ esc l := rfl
theorem esc_append (a b : List Int) : esc (a ++ b) = esc a ++ esc b := List.flatMap_append
theorem esc_one (c : Int) : esc [c] = escB c := by unfold esc; simp
theorem escB_len (c : Int) : 1 ≤ (escB c).length ∧ (escB c).length ≤ 3 := by unfold escB; split <;> simp
theorem esc_len : ∀ l : List Int, l.length ≤ (esc l).length ∧ (esc l).length ≤ 3 * l.length
  | [] => by simp [esc]
  | c :: l => by
    have h1 := escB_len c
    have h2 := esc_len l
    rw [esc_cons, List.length_append, List.length_cons]
    omega
theorem letB_iff {c : Int} : I.letB c = true ↔ (97 ≤ c ∧ c ≤ 122) ∨ (48 ≤ c ∧ c ≤ 57) := by unfold I.letB; simp
theorem hexd_rng {n : Int} (h0 : 0 ≤ n) (h1 : n < 16) : (48 ≤ hexd n ∧ hexd n ≤ 57) ∨ (97 ≤ hexd n ∧ hexd n ≤ 102) := by unfold hexd; split <;> omega
theorem locB_of_let {c : Int} (h : I.letB c = true) : I.locB c = true := by unfold I.locB; rw [h]; rfl
theorem let_hexd {n : Int} (h0 : 0 ≤ n) (h1 : n < 16) : I.letB (hexd n) = true := letB_iff.2 (by have := hexd_rng h0 h1; omega)
theorem esc_loc : ∀ {l : List Int}, Byt l → (esc l).all I.locB = true
  | [], _ => rfl
  | c :: l, h => by
    have hc := h c (by simp)
    rw [esc_cons, List.all_append, esc_loc (fun x hx => h x (by simp [hx])), Bool.and_true]
    unfold escB
    split
    · rename_i h1
      simp [locB_of_let h1]
    · have k1 := locB_of_let (let_hexd (n := c / 16) (by omega) (by omega))
      have k2 := locB_of_let (let_hexd (n := c % 16) (by omega) (by omega))
      simp only [List.all_cons, List.all_nil, k1, k2]
      rfl
theorem esc_byt : ∀ {l : List Int}, Byt l → Byt (esc l)
  | [], _ => fun c hc => by simp [esc] at hc
  | c :: l, h => fun x hx => by
    have hc := h c (by simp)
    have r1 := hexd_rng (n := c / 16) (by omega) (by omega)
    have r2 := hexd_rng (n := c % 16) (by omega) (by omega)
    rw [esc_cons, List.mem_append] at hx
    rcases hx with hx | hx
    · unfold escB at hx
      split at hx
      · simp at hx; omega
      · simp at hx; omega
    · exact esc_byt (fun y hy => h y (by simp [hy])) x hx
/-- A name read back, what two digits stand for being given. -/
def un (f : Int → Int → Option Int) : List Int → Option (List Int)
  | [] => some []
  | [c] => if c = 61 then none else some [c]
  | [c, d] => if c = 61 then none else (un f [d]).map (c :: ·)
  | c :: a :: b :: r => if c = 61 then (f a b).bind fun x => (un f r).map (x :: ·) else (un f (a :: b :: r)).map (c :: ·)
theorem un_plain {f : Int → Int → Option Int} {c : Int} (h : c ≠ 61) (r : List Int) : un f (c :: r) = (un f r).map (c :: ·) := by
  match r with
  | [] => simp [un, h]
  | [d] => simp only [un, h, if_false]
  | a :: b :: r => simp only [un, h, if_false]
theorem un_eq {f : Int → Int → Option Int} (a b : Int) (r : List Int) : un f (61 :: a :: b :: r) = (f a b).bind fun x => (un f r).map (x :: ·) := by simp only [un, if_pos rfl, if_true]
theorem un_short {f : Int → Int → Option Int} {r : List Int} (h : r.length < 2) : un f (61 :: r) = none := by
  match r, h with
  | [], _ => simp [un]
  | [d], _ => simp [un]
theorem un_esc {f : Int → Int → Option Int} (hf : ∀ c, 0 ≤ c → c ≤ 255 → f (hexd (c / 16)) (hexd (c % 16)) = some c) : ∀ {l : List Int}, Byt l → un f (esc l) = some l
  | [], _ => rfl
  | c :: l, h => by
    have hc := h c (by simp)
    have ih := un_esc hf (l := l) (fun x hx => h x (by simp [hx]))
    rw [esc_cons]
    unfold escB
    split
    · rename_i h1
      have h2 := letB_iff.1 h1
      rw [List.singleton_append, un_plain (by omega), ih]
      rfl
    · rw [show ([61, hexd (c / 16), hexd (c % 16)] ++ esc l) = 61 :: hexd (c / 16) :: hexd (c % 16) :: esc l from rfl, un_eq, hf c hc.1 hc.2, ih]
      rfl
/-- What the program takes two bytes for. -/
def dv (b : Int) : Int := if 97 ≤ b then b - 87 else IntKind.u8.wrap (b - 48)
def byP (a b : Int) : Int := IntKind.u8.wrap (IntKind.u8.wrap (16 * dv a) + dv b)
def fP (a b : Int) : Option Int := some (byP a b)
theorem wrap_rng (n : Int) : 0 ≤ IntKind.u8.wrap n ∧ IntKind.u8.wrap n ≤ 255 := by rw [IntKind.wrap_u8]; omega
theorem byP_rng (a b : Int) : 0 ≤ byP a b ∧ byP a b ≤ 255 := wrap_rng _
theorem dv_hexd {n : Int} (h0 : 0 ≤ n) (h1 : n < 16) : dv (hexd n) = n := by
  unfold dv hexd
  by_cases h : n < 10
  · rw [if_pos h, if_neg (by omega), IntWalk.u8_in _ (by omega)]; omega
  · rw [if_neg h, if_pos (by omega)]; omega
theorem fP_ok (c : Int) (h0 : 0 ≤ c) (h1 : c ≤ 255) : fP (hexd (c / 16)) (hexd (c % 16)) = some c := by
  unfold fP byP
  rw [dv_hexd (by omega) (by omega), dv_hexd (by omega) (by omega), IntWalk.u8_in (16 * (c / 16)) (by omega), IntWalk.u8_in _ (by omega)]
  congr 1
  omega
/-- What the reference takes two bytes for. -/
def dr (b : Int) : Int := if 48 ≤ b ∧ b ≤ 57 then b - 48 else if 97 ≤ b ∧ b ≤ 102 then b - 87 else 16
theorem dr_rng (b : Int) : 0 ≤ dr b ∧ dr b ≤ 16 := by unfold dr; split; omega; split <;> omega
def fR (a b : Int) : Option Int := if dr a ≤ 15 ∧ dr b ≤ 15 then some (16 * dr a + dr b) else none
theorem dr_hexd {n : Int} (h0 : 0 ≤ n) (h1 : n < 16) : dr (hexd n) = n := by
  unfold dr hexd
  by_cases h : n < 10
  · rw [if_pos h, if_pos (by omega)]; omega
  · rw [if_neg h, if_neg (by omega), if_pos (by omega)]; omega
theorem fR_ok (c : Int) (h0 : 0 ≤ c) (h1 : c ≤ 255) : fR (hexd (c / 16)) (hexd (c % 16)) = some c := by
  unfold fR
  rw [dr_hexd (by omega) (by omega), dr_hexd (by omega) (by omega), if_pos (by omega)]
  congr 1
  omega
/-- The name with an escaped form. -/
def dec (f : Int → Int → Option Int) (l : List Int) : Option (List Int) := (un f l).bind fun n => if esc n = l then some n else none
theorem un_byt {f : Int → Int → Option Int} (hf : ∀ a b x, f a b = some x → 0 ≤ x ∧ x ≤ 255) : ∀ (l n : List Int), Byt l → un f l = some n → Byt n := by
  intro l
  induction l using un.induct with
  | case1 => intro n _ h; simp [un] at h; subst h; exact fun c hc => by simp at hc
  | case2 => intro n _ h; simp [un] at h
  | case3 c hc => intro n hb h; simp [un, hc] at h; subst h; exact fun x hx => hb x hx
  | case4 d => intro n hb h; simp [un] at h
  | case5 c d hc ih =>
    intro n hb h
    rw [un_plain hc, Option.map_eq_some_iff] at h
    obtain ⟨m, hm, rfl⟩ := h
    intro x hx
    rcases List.mem_cons.1 hx with rfl | hx
    · exact hb _ (by simp)
    · exact ih m (fun y hy => hb y (by simp at hy ⊢; exact .inr hy)) hm x hx
  | case6 a b r ih =>
    intro n hb h
    rw [un_eq, Option.bind_eq_some_iff] at h
    obtain ⟨x, hx, h⟩ := h
    rw [Option.map_eq_some_iff] at h
    obtain ⟨m, hm, rfl⟩ := h
    intro y hy
    rcases List.mem_cons.1 hy with rfl | hy
    · exact hf a b _ hx
    · exact ih m (fun z hz => hb z (by simp [hz])) hm y hy
  | case7 c a b r hc ih =>
    intro n hb h
    rw [un_plain hc, Option.map_eq_some_iff] at h
    obtain ⟨m, hm, rfl⟩ := h
    intro x hx
    rcases List.mem_cons.1 hx with rfl | hx
    · exact hb _ (by simp)
    · exact ih m (fun y hy => hb y (List.mem_cons_of_mem _ hy)) hm x hx
theorem fP_byt (a b x : Int) (h : fP a b = some x) : 0 ≤ x ∧ x ≤ 255 := by unfold fP at h; simp at h; subst h; exact byP_rng a b
theorem fR_byt (a b x : Int) (h : fR a b = some x) : 0 ≤ x ∧ x ≤ 255 := by
  unfold fR at h
  split at h
  · simp at h
    have := dr_rng a
    have := dr_rng b
    omega
  · cases h
theorem dec_iff {f : Int → Int → Option Int} (hok : ∀ c, 0 ≤ c → c ≤ 255 → f (hexd (c / 16)) (hexd (c % 16)) = some c) (hf : ∀ a b x, f a b = some x → 0 ≤ x ∧ x ≤ 255) {l n : List Int} (hl : Byt l) : dec f l = some n ↔ Byt n ∧ esc n = l := by
  unfold dec
  rw [Option.bind_eq_some_iff]
  constructor
  · rintro ⟨m, hm, h⟩
    split at h
    · rename_i h1
      cases h
      exact ⟨un_byt hf l _ hl hm, h1⟩
    · cases h
  · rintro ⟨hb, rfl⟩
    exact ⟨n, un_esc hok hb, by rw [if_pos rfl]⟩
theorem dec_same {l : List Int} (hl : Byt l) : dec fP l = dec fR l := by
  apply Option.ext
  intro n
  rw [dec_iff fP_ok fP_byt hl, dec_iff fR_ok fR_byt hl]
theorem esc_inj {a b : List Int} (ha : Byt a) (hb : Byt b) (h : esc a = esc b) : a = b := by
  have h1 := un_esc fP_ok ha
  rw [h, un_esc fP_ok hb] at h1
  exact (Option.some.inj h1).symm
/-- A network's name. -/
def net (l : List Int) : Bool := l.all I.letB && decide (1 ≤ l.length ∧ l.length ≤ 8)
end E
end Go.Proofs.Ytkcceobncjoodaa
