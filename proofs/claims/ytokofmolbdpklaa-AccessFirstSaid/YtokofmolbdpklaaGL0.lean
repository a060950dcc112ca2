/- Patterns over lists of numbers: what a pattern matches, cut into two, byte by byte from the end, and piece by piece. Plain lists; no program. -/
namespace Go.Proofs.Ytokofmolbdpklaa.G

/-- A suffix of the text satisfies f. -/
def star (f : List Int → Bool) : List Int → Bool
  | [] => f []
  | d :: s => f (d :: s) || star f s
/-- The pattern matches the text. -/
def mt : List Int → List Int → Bool
  | [], s => s.isEmpty
  | c :: p, s => if c == 42 then star (mt p) s else match s with
    | [] => false
    | d :: t => (c == 63 || c == d) && mt p t

theorem mt_cons (c : Int) (p s : List Int) : mt (c :: p) s = if c == 42 then star (mt p) s else match s with
    | [] => false
    | d :: t => (c == 63 || c == d) && mt p t := by cases s <;> rfl
theorem mt_cons2 (c d : Int) (p t : List Int) (hc : c ≠ 42) : mt (c :: p) (d :: t) = ((c == 63 || c == d) && mt p t) := by
  rw [mt_cons, if_neg (by simpa using hc)]
theorem mt_cons0 (c : Int) (p : List Int) (hc : c ≠ 42) : mt (c :: p) [] = false := by
  rw [mt_cons, if_neg (by simpa using hc)]
theorem star_iff (f : List Int → Bool) (s : List Int) : star f s = true ↔ ∃ i, i ≤ s.length ∧ f (s.drop i) = true := by
  induction s with
  | nil => simp [star]
  | cons d s ih =>
    simp only [star, Bool.or_eq_true, ih, List.length_cons]
    constructor
    · rintro (h | ⟨i, hi, h⟩)
      · exact ⟨0, by omega, h⟩
      · exact ⟨i + 1, by omega, h⟩
    · rintro ⟨i, hi, h⟩
      cases i with
      | zero => exact .inl h
      | succ i => exact .inr ⟨i, by omega, h⟩
theorem mt_nil (s : List Int) : mt [] s = true ↔ s = [] := by simp [mt]
theorem mt_star (p s : List Int) : mt (42 :: p) s = true ↔ ∃ i, i ≤ s.length ∧ mt p (s.drop i) = true := by
  rw [mt_cons, if_pos (by rfl), star_iff]
theorem mt_byte (c : Int) (hc : c ≠ 42) (p s : List Int) : mt (c :: p) s = true ↔ ∃ d t, s = d :: t ∧ (c = 63 ∨ c = d) ∧ mt p t = true := by
  cases s with
  | nil => simp [mt_cons0 c p hc]
  | cons d t =>
    rw [mt_cons2 c d p t hc]
    simp only [Bool.and_eq_true, Bool.or_eq_true, beq_iff_eq, List.cons.injEq]
    constructor
    · rintro ⟨h1, h2⟩; exact ⟨d, t, ⟨rfl, rfl⟩, h1, h2⟩
    · rintro ⟨_, _, ⟨rfl, rfl⟩, h1, h2⟩; exact ⟨h1, h2⟩
theorem mt_split (p q s : List Int) : mt (p ++ q) s = true ↔ ∃ i, i ≤ s.length ∧ mt p (s.take i) = true ∧ mt q (s.drop i) = true := by
  induction p generalizing s with
  | nil =>
    constructor
    · intro h; exact ⟨0, by omega, by simp [mt], by simpa using h⟩
    · rintro ⟨i, hi, h1, h2⟩
      have h3 := (mt_nil _).1 h1
      have h4 : i = 0 ∨ s = [] := by simpa [List.take_eq_nil_iff] using h3
      rcases h4 with rfl | rfl
      · simpa using h2
      · simpa using h2
  | cons c p ih =>
    by_cases hc : c = 42
    · subst hc
      rw [List.cons_append, mt_star]
      constructor
      · rintro ⟨j, hj, h⟩
        obtain ⟨i, hi, h1, h2⟩ := (ih _).1 h
        rw [List.length_drop] at hi
        refine ⟨j + i, by omega, (mt_star _ _).2 ⟨j, by rw [List.length_take]; omega, ?_⟩, ?_⟩
        · rw [List.drop_take]; rw [show j + i - j = i by omega]; exact h1
        · rw [← List.drop_drop]; exact h2
      · rintro ⟨i, hi, h1, h2⟩
        obtain ⟨j, hj, h3⟩ := (mt_star _ _).1 h1
        rw [List.length_take] at hj
        refine ⟨j, by omega, (ih _).2 ⟨i - j, by rw [List.length_drop]; omega, ?_, ?_⟩⟩
        · rw [List.drop_take] at h3; exact h3
        · rw [List.drop_drop, show j + (i - j) = i by omega]; exact h2
    · rw [List.cons_append, mt_byte c hc]
      constructor
      · rintro ⟨d, t, rfl, h, h1⟩
        obtain ⟨i, hi, h2, h3⟩ := (ih _).1 h1
        exact ⟨i + 1, by simpa using hi, (mt_byte c hc _ _).2 ⟨d, t.take i, by simp, h, h2⟩, by simpa using h3⟩
      · rintro ⟨i, hi, h1, h2⟩
        obtain ⟨d, t, e, h, h3⟩ := (mt_byte c hc _ _).1 h1
        cases s with
        | nil => simp at e
        | cons x s =>
          cases i with
          | zero => simp at e
          | succ i =>
            simp only [List.take_succ_cons, List.cons.injEq] at e
            obtain ⟨rfl, rfl⟩ := e
            exact ⟨x, s, rfl, h, (ih _).2 ⟨i, by simpa using hi, h3, by simpa using h2⟩⟩

/-! ### from the end, for the rows -/
theorem mt_one (a : Int) (ha : a ≠ 42) (t : List Int) : mt [a] t = true ↔ ∃ d, t = [d] ∧ (a = 63 ∨ a = d) := by
  rw [mt_byte a ha]
  constructor
  · rintro ⟨d, t, rfl, h, h1⟩; rw [(mt_nil _).1 h1]; exact ⟨d, rfl, h⟩
  · rintro ⟨d, rfl, h⟩; exact ⟨d, [], rfl, h, by simp [mt]⟩
theorem mt_many (t : List Int) : mt [42] t = true := (mt_star _ _).2 ⟨t.length, Nat.le_refl _, by simp [mt]⟩
theorem mt_snoc_star (p s : List Int) : mt (p ++ [42]) s = true ↔ ∃ i, i ≤ s.length ∧ mt p (s.take i) = true := by
  rw [mt_split]
  exact ⟨fun ⟨i, hi, h, _⟩ => ⟨i, hi, h⟩, fun ⟨i, hi, h⟩ => ⟨i, hi, h, mt_many _⟩⟩
theorem row_star (p s : List Int) (c : Int) : mt (p ++ [42]) (s ++ [c]) = (mt p (s ++ [c]) || mt (p ++ [42]) s) := by
  rw [Bool.eq_iff_iff, Bool.or_eq_true, mt_snoc_star, mt_snoc_star]
  constructor
  · rintro ⟨i, hi, h⟩
    by_cases e : i = s.length + 1
    · left; rw [List.take_of_length_le (by simp; omega)] at h; exact h
    · right; simp at hi; exact ⟨i, by omega, by rw [List.take_append_of_le_length (by omega)] at h; exact h⟩
  · rintro (h | ⟨i, hi, h⟩)
    · exact ⟨s.length + 1, by simp, by rw [List.take_of_length_le (by simp)]; exact h⟩
    · exact ⟨i, by simp; omega, by rw [List.take_append_of_le_length (by omega)]; exact h⟩
theorem row_byte (p s : List Int) (a c : Int) (ha : a ≠ 42) : mt (p ++ [a]) (s ++ [c]) = (mt p s && (a == 63 || a == c)) := by
  rw [Bool.eq_iff_iff, mt_split]
  simp only [Bool.and_eq_true, Bool.or_eq_true, beq_iff_eq]
  constructor
  · rintro ⟨i, hi, h1, h2⟩
    obtain ⟨d, e, h⟩ := (mt_one a ha _).1 h2
    have hl := congrArg List.length e
    simp at hl hi
    have hi' : i = s.length := by omega
    subst hi'
    rw [List.take_append_of_le_length (Nat.le_refl _), List.take_length] at h1
    rw [List.drop_append_of_le_length (Nat.le_refl _), List.drop_length] at e
    simp at e
    subst e
    exact ⟨h1, h⟩
  · rintro ⟨h1, h2⟩
    refine ⟨s.length, by simp, ?_, (mt_one a ha _).2 ⟨c, ?_, h2⟩⟩
    · rw [List.take_append_of_le_length (Nat.le_refl _), List.take_length]; exact h1
    · rw [List.drop_append_of_le_length (Nat.le_refl _), List.drop_length]; rfl
theorem row_nil (p : List Int) (a : Int) : mt (p ++ [a]) [] = (mt p [] && a == 42) := by
  rw [Bool.eq_iff_iff, mt_split, Bool.and_eq_true, beq_iff_eq]
  constructor
  · rintro ⟨i, hi, h1, h2⟩
    refine ⟨by simpa using h1, ?_⟩
    by_cases ha : a = 42
    · exact ha
    · obtain ⟨d, e, _⟩ := (mt_one a ha _).1 h2
      simp at e
  · rintro ⟨h, rfl⟩
    exact ⟨0, by simp, by simpa using h, mt_many _⟩
theorem row_none (s : List Int) (c : Int) : mt [] (s ++ [c]) = false := by simp [mt]

/-! ### pieces -/
/-- The beginning of the text is matched by a piece without stars. -/
def beg : List Int → List Int → Bool
  | [], _ => true
  | _ :: _, [] => false
  | c :: x, d :: t => (c == 63 || c == d) && beg x t
theorem beg_len : ∀ (x t : List Int), beg x t = true → x.length ≤ t.length
  | [], _, _ => by simp
  | _ :: _, [], h => by simp [beg] at h
  | c :: x, d :: t, h => by
    simp only [beg, Bool.and_eq_true] at h
    have := beg_len x t h.2
    simp; omega
theorem beg_app : ∀ (x y t : List Int), beg (x ++ y) t = (beg x t && beg y (t.drop x.length))
  | [], y, t => by simp [beg]
  | c :: x, y, [] => by simp [beg]
  | c :: x, y, d :: t => by simp [beg, beg_app x y t, Bool.and_assoc]
theorem beg_take (x t : List Int) (k : Nat) : beg x t = (beg (x.take k) t && beg (x.drop k) (t.drop (x.take k).length)) := by
  rw [← beg_app, List.take_append_drop]
theorem beg_one (c : Int) (t : List Int) (k : Nat) (h : k < t.length) : beg [c] (t.drop k) = (c == 63 || c == t.getD k 0) := by
  rw [List.drop_eq_getElem_cons h, List.getD_eq_getElem?_getD, List.getElem?_eq_getElem h]; simp [beg]
theorem beg_snoc (x t : List Int) (k : Nat) (h : k < x.length) (h2 : k < t.length) : beg (x.take (k + 1)) t = (beg (x.take k) t && (x.getD k 0 == 63 || x.getD k 0 == t.getD k 0)) := by
  have e : x.getD k 0 = x[k] := by rw [List.getD_eq_getElem?_getD, List.getElem?_eq_getElem h]; rfl
  rw [List.take_succ_eq_append_getElem h, beg_app, List.length_take, Nat.min_eq_left (Nat.le_of_lt h), beg_one _ _ _ h2, e]
theorem beg_bad (x t : List Int) (k : Nat) (h : k < x.length) (h2 : k < t.length) (hc : x.getD k 0 ≠ 63 ∧ x.getD k 0 ≠ t.getD k 0) : beg x t = false := by
  have : beg (x.take (k + 1)) t = false := by
    rw [beg_snoc x t k h h2]
    have e1 : (x.getD k 0 == 63) = false := beq_eq_false_iff_ne.2 hc.1
    have e2 : (x.getD k 0 == t.getD k 0) = false := beq_eq_false_iff_ne.2 hc.2
    rw [e1, e2]; simp
  rw [beg_take x t (k + 1), this]; rfl
theorem beg_short (x t : List Int) (h : t.length < x.length) : beg x t = false := by
  cases hb : beg x t with
  | false => rfl
  | true => have := beg_len x t hb; omega
theorem mt_piece (x q : List Int) (hx : ∀ c ∈ x, c ≠ 42) (t : List Int) : mt (x ++ q) t = (beg x t && mt q (t.drop x.length)) := by
  induction x generalizing t with
  | nil => simp [beg]
  | cons c x ih =>
    have hc : c ≠ 42 := hx c (by simp)
    rw [List.cons_append]
    cases t with
    | nil => simp [beg, mt_cons0 c _ hc]
    | cons d t =>
      rw [mt_cons2 c d _ t hc, ih (fun c h => hx c (by simp [h]))]
      simp only [beg, List.length_cons, List.drop_succ_cons, Bool.and_assoc]
theorem mt_plain (x : List Int) (hx : ∀ c ∈ x, c ≠ 42) (t : List Int) : mt x t = (t.length == x.length && beg x t) := by
  have h := mt_piece x [] hx t
  rw [List.append_nil] at h
  rw [h, Bool.eq_iff_iff]
  simp only [Bool.and_eq_true, beq_iff_eq, mt_nil, List.drop_eq_nil_iff]
  constructor
  · rintro ⟨h1, h2⟩; have := beg_len x t h1; exact ⟨by omega, h1⟩
  · rintro ⟨h1, h2⟩; exact ⟨h2, by omega⟩
theorem mt_star_mono (q s : List Int) (i j : Nat) (h : i ≤ j) (hm : mt (42 :: q) (s.drop j) = true) : mt (42 :: q) (s.drop i) = true := by
  obtain ⟨k, hk, h1⟩ := (mt_star _ _).1 hm
  rw [List.length_drop] at hk
  rw [List.drop_drop] at h1
  by_cases hj : j ≤ s.length
  · exact (mt_star _ _).2 ⟨j + k - i, by rw [List.length_drop]; omega, by rw [List.drop_drop, show i + (j + k - i) = j + k by omega]; exact h1⟩
  · rw [List.drop_of_length_le (by omega)] at h1
    exact (mt_star _ _).2 ⟨(s.drop i).length, Nat.le_refl _, by rw [List.drop_length]; exact h1⟩

/-- The first place, from place k on, where the piece lies. -/
def fnd (x s : List Int) : Nat → Nat → Option Nat
  | 0, _ => none
  | n + 1, k => if beg x (s.drop k) then some k else fnd x s n (k + 1)
/-- The first place where the piece lies, or none. -/
def find (x s : List Int) : Option Nat := fnd x s (s.length + 1 - x.length) 0
theorem fnd_some (x s : List Int) : ∀ (n k m : Nat), fnd x s n k = some m → k ≤ m ∧ m < k + n ∧ beg x (s.drop m) = true ∧ ∀ i, k ≤ i → i < m → beg x (s.drop i) = false
  | 0, k, m, h => by simp [fnd] at h
  | n + 1, k, m, h => by
    rw [fnd] at h
    by_cases hb : beg x (s.drop k) = true
    · rw [if_pos hb] at h
      obtain rfl := Option.some.inj h
      exact ⟨Nat.le_refl _, by omega, hb, fun i h1 h2 => by omega⟩
    · rw [if_neg hb] at h
      obtain ⟨h1, h2, h3, h4⟩ := fnd_some x s n (k + 1) m h
      refine ⟨by omega, by omega, h3, fun i h5 h6 => ?_⟩
      by_cases e : i = k
      · subst e; simpa using hb
      · exact h4 i (by omega) h6
theorem fnd_none (x s : List Int) : ∀ (n k : Nat), fnd x s n k = none → ∀ i, k ≤ i → i < k + n → beg x (s.drop i) = false
  | 0, k, h, i, h1, h2 => by omega
  | n + 1, k, h, i, h1, h2 => by
    rw [fnd] at h
    by_cases hb : beg x (s.drop k) = true
    · rw [if_pos hb] at h; simp at h
    · rw [if_neg hb] at h
      by_cases e : i = k
      · subst e; simpa using hb
      · exact fnd_none x s n (k + 1) h i (by omega) (by omega)
/-- What the loop over the pieces leaves of the text. -/
def loop : List (List Int) → List Int → Option (List Int)
  | [], s => some s
  | x :: xs, s => match find x s with
    | none => none
    | some k => loop xs (s.drop (k + x.length))
/-- The pieces, each with its star behind it, and the last one. -/
def whole (ps : List (List Int)) (last : List Int) : List Int := (ps.map (· ++ [42])).flatten ++ last
theorem whole_cons (x : List Int) (ps : List (List Int)) (last : List Int) : whole (x :: ps) last = x ++ 42 :: whole ps last := by
  simp [whole]
theorem whole_snoc (x : List Int) (ps : List (List Int)) (last : List Int) : whole (ps ++ [x]) last = whole ps (x ++ 42 :: last) := by
  simp [whole]
/-- The last piece lies at the end of what is left. -/
def atEnd (last r : List Int) : Bool := decide (last.length ≤ r.length) && beg last (r.drop (r.length - last.length))
theorem mt_loop (ps : List (List Int)) (last : List Int) (hp : ∀ x ∈ ps, ∀ c ∈ x, c ≠ 42) (hl : ∀ c ∈ last, c ≠ 42) (s : List Int) :
    mt (42 :: whole ps last) s = match loop ps s with | none => false | some r => atEnd last r := by
  induction ps generalizing s with
  | nil =>
    simp only [loop, whole, List.map_nil, List.flatten_nil, List.nil_append]
    rw [Bool.eq_iff_iff, mt_star, atEnd, Bool.and_eq_true, decide_eq_true_iff]
    constructor
    · rintro ⟨i, hi, h⟩
      rw [mt_plain _ hl, Bool.and_eq_true, beq_iff_eq, List.length_drop] at h
      exact ⟨by omega, by rw [show s.length - last.length = i by omega]; exact h.2⟩
    · rintro ⟨h1, h2⟩
      exact ⟨s.length - last.length, by omega, by rw [mt_plain _ hl, Bool.and_eq_true, beq_iff_eq, List.length_drop]; exact ⟨by omega, h2⟩⟩
  | cons x ps ih =>
    have hx : ∀ c ∈ x, c ≠ 42 := hp x (by simp)
    have ih := ih (fun y hy => hp y (by simp [hy]))
    rw [whole_cons, loop]
    have key : mt (42 :: (x ++ 42 :: whole ps last)) s = true ↔ ∃ i, i ≤ s.length ∧ beg x (s.drop i) = true ∧ mt (42 :: whole ps last) (s.drop (i + x.length)) = true := by
      rw [mt_star]
      constructor
      · rintro ⟨i, hi, h⟩
        rw [mt_piece _ _ hx, Bool.and_eq_true, List.drop_drop] at h
        exact ⟨i, hi, h.1, h.2⟩
      · rintro ⟨i, hi, h⟩
        exact ⟨i, hi, by rw [mt_piece _ _ hx, Bool.and_eq_true, List.drop_drop]; exact h⟩
    cases hf : find x s with
    | none =>
      rw [Bool.eq_iff_iff, key]
      simp only [Bool.false_eq_true, iff_false]
      rintro ⟨i, hi, h1, h2⟩
      have hln := beg_len _ _ h1
      rw [List.length_drop] at hln
      have := fnd_none x s _ 0 hf i (Nat.zero_le _) (by omega)
      rw [this] at h1; exact absurd h1 (by simp)
    | some k =>
      obtain ⟨h0, h1, h2, h3⟩ := fnd_some x s _ 0 k hf
      show _ = (match loop ps (s.drop (k + x.length)) with | none => false | some r => atEnd last r)
      rw [← ih, Bool.eq_iff_iff, key]
      constructor
      · rintro ⟨i, hi, h4, h5⟩
        have hki : k ≤ i := by
          rcases Nat.lt_or_ge i k with h | h
          · rw [h3 i (Nat.zero_le _) h] at h4; exact absurd h4 (by simp)
          · exact h
        exact mt_star_mono _ s _ _ (by omega) h5
      · intro h
        exact ⟨k, by omega, h2, h⟩
/-- What the last piece says of what the loop has left. -/
def tailB (last : List Int) : Option (List Int) → Bool
  | none => false
  | some r => atEnd last r
/-- The whole pattern, by its pieces. -/
theorem mt_whole (x : List Int) (ps : List (List Int)) (last : List Int) (hx : ∀ c ∈ x, c ≠ 42) (hp : ∀ x ∈ ps, ∀ c ∈ x, c ≠ 42) (hl : ∀ c ∈ last, c ≠ 42) (s : List Int) :
    mt (whole (x :: ps) last) s = (beg x s && tailB last (loop ps (s.drop x.length))) := by
  rw [whole_cons, mt_piece _ _ hx, mt_loop _ _ hp hl]
  cases loop ps (s.drop x.length) <;> rfl
theorem mt_lone (last : List Int) (hl : ∀ c ∈ last, c ≠ 42) (s : List Int) : mt (whole [] last) s = (s.length == last.length && beg last s) := by
  rw [whole, List.map_nil, List.flatten_nil, List.nil_append, mt_plain _ hl]

/-! ### the laws' own -/
theorem mt_self (p : List Int) (h : ∀ c ∈ p, c ≠ 42 ∧ c ≠ 63) (s : List Int) : mt p s = (p == s) := by
  induction p generalizing s with
  | nil => cases s <;> simp [mt]
  | cons c p ih =>
    have hc := h c (by simp)
    cases s with
    | nil => simp [mt_cons0 c p hc.1]
    | cons d s =>
      rw [mt_cons2 c d p s hc.1, ih (fun c hc => h c (by simp [hc]))]
      have : (c == 63) = false := by simpa using hc.2
      simp [this]
/-- The bytes that are no stars. -/
def least (p : List Int) : Nat := (p.filter (· != 42)).length
theorem least_nil : least [] = 0 := rfl
theorem least_snoc (p : List Int) (c : Int) : least (p ++ [c]) = least p + if c = 42 then 0 else 1 := by
  unfold least
  rw [List.filter_append, List.length_append]
  by_cases h : c = 42 <;> simp [h]
theorem least_le (p : List Int) : least p ≤ p.length := List.length_filter_le _ _
theorem least_cons (c : Int) (p : List Int) : least (c :: p) = least p + if c = 42 then 0 else 1 := by
  unfold least
  by_cases h : c = 42 <;> simp [h]
theorem mt_least (p s : List Int) (h : mt p s = true) : least p ≤ s.length := by
  induction p generalizing s with
  | nil => simp [least_nil]
  | cons c p ih =>
    rw [least_cons]
    by_cases hc : c = 42
    · subst hc
      obtain ⟨i, hi, h1⟩ := (mt_star _ _).1 h
      have := ih _ h1
      rw [List.length_drop] at this
      rw [if_pos rfl]; omega
    · obtain ⟨d, t, rfl, _, h1⟩ := (mt_byte c hc _ _).1 h
      have := ih _ h1
      rw [if_neg hc, List.length_cons]; omega
/-- The pattern without stars, an x for each question mark. -/
def fill (p : List Int) : List Int := (p.filter (· != 42)).map fun c => if c = 63 then 120 else c
theorem fill_length (p : List Int) : (fill p).length = least p := by simp [fill, least]
theorem fill_snoc (p : List Int) (c : Int) : fill (p ++ [c]) = fill p ++ if c = 63 then [120] else if c = 42 then [] else [c] := by
  unfold fill
  rw [List.filter_append, List.map_append]
  congr 1
  by_cases h : c = 63
  · subst h; rfl
  · by_cases h2 : c = 42
    · subst h2; rfl
    · simp [h, h2]
theorem mt_fill (p : List Int) : mt p (fill p) = true := by
  induction p with
  | nil => rfl
  | cons c p ih =>
    by_cases hc : c = 42
    · subst hc
      have : fill (42 :: p) = fill p := by simp [fill]
      rw [this]
      exact (mt_star _ _).2 ⟨0, Nat.zero_le _, by simpa using ih⟩
    · have : fill (c :: p) = (if c = 63 then 120 else c) :: fill p := by simp [fill, hc]
      rw [this]
      refine (mt_byte c hc _ _).2 ⟨_, _, rfl, ?_, ih⟩
      by_cases h : c = 63
      · exact .inl h
      · rw [if_neg h]; exact .inr rfl
/-- The first pattern of a list that matches. -/
def first (m : List Int → Bool) : List (List Int) → Option Nat
  | [] => none
  | p :: l => if m p then some 0 else (first m l).map (· + 1)
end Go.Proofs.Ytokofmolbdpklaa.G
