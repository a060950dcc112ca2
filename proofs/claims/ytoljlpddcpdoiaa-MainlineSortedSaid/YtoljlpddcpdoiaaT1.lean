/- A range over an iterator that keeps a state of its own between two rounds (cells that it captured, a map that it made): the law of the statement. What the iterator does to the memory is named by a relation T, what a round must leave to the iterator by a relation Kp, what holds of the memory at each round by Z. No program. -/
import Derived.RangeFuncRecord
import Derived.RangeFuncSeq
import Derived.ControlIn
import Derived.WalkKit
namespace Go.Proofs.Ytoljlpddcpdoiaa
open Go Go.RowKit
set_option linter.unusedVariables false
section
variable {α : Type} {F : Fence} {n : Nat} {P : Program}
/-- The iterator's contract at a world: whatever the loop's owner says (J between rounds, Jx once a round has left), if it abides T, holds at the iterator's end. -/
def SeqT (F : Fence) (n : Nat) (P : Program) (g : Nat) (lb : Array Value) (encs : α → Array Value) (T Kp : World → World → Prop) (Z : List α → World → Prop) (S Sp : List α → Prop) (W : World) : Prop :=
  ∀ (l : Nat) (J Jx : List α → World → Prop), (∀ s A B, J s A → T A B → J s B) → (∀ s A B, Jx s A → T A B → Jx s B) →
    (∀ pre x A, J pre A → Z (pre ++ [x]) A → YieldAt F (n - 1) P l (encs x) A fun e B => (e = .returned (.bool true) ∧ J (pre ++ [x]) B ∧ Kp A B) ∨ (e = .returned (.bool false) ∧ Jx (pre ++ [x]) B)) →
    J [] W → CallsIn F n P g (#[.func (.yield l) #[] #[]] ++ lb) W fun e B => (∃ v, e = .returned v) ∧ ((∃ xs, S xs ∧ J xs B) ∨ ∃ pre, Sp pre ∧ Jx pre B)
/-- The two blocks that the statement lays stand as they stood. -/
def Stands (b : Nat) (A B : World) : Prop := B.heap[b]? = A.heap[b]? ∧ B.heap[b + 1]? = A.heap[b + 1]?
def EndsT (b : Nat) (Kp : World → World → Prop) (I : List α → World → Prop) (Ix : Code → List α → World → Prop) (xs : List α) (A : World) (e : Exit) (_ : Act) (B : World) : Prop :=
  Stands b A B ∧ (match e with
    | .normal => Kp A B ∧ I xs B
    | .ret => Ix .ret xs B
    | .exit i => Ix (.exit i) xs B
    | .goto t => Ix (.goto t) xs B
    | _ => False)
/-- The world in which the iterator begins. -/
def begun (w : World) (r : Loop) : World := (w.alloc (.deferred (some []))).alloc (.loop r)
theorem begun_size (w : World) (r : Loop) : (begun w r).heap.size = w.heap.size + 2 := by simp [begun]
theorem begun_loop (w : World) (r : Loop) : (begun w r).heap[w.heap.size + 1]? = some (.loop r) := by
  have h := World.alloc_heap_new (w.alloc (.deferred (some []))) (.loop r)
  rwa [World.size_alloc] at h
theorem begun_late (w : World) (r : Loop) : (begun w r).heap[w.heap.size]? = some (.deferred (some [])) :=
  (Below.heap_alloc _ _ _ (by simp)).trans (World.alloc_heap_new w _)
theorem range_turns {g : Operand} {ps : Array Tmp} {assign body : Code} {Q : Exit → Act → World → Prop} {a : Act} {w : World} {gf : Nat} {lb : Array Value} {encs : α → Array Value} {T Kp : World → World → Prop} {Z : List α → World → Prop} {S Sp : List α → Prop}
    (hro : F.round = none) (h1 : 1 ≤ n) (hg : a.eval g = .func (.func gf) #[] lb) (hF : F.fn gf) (henter : ∀ args w, (callFunc gf args).run P w = .ok (.enter gf args) w) (hps : ∀ x, (encs x).size = ps.size)
    (hseq : ∀ r, SeqT F (n - 1) P gf lb encs T Kp Z S Sp (begun w r))
    (hT : ∀ A B, T A B → w.heap.size + 1 < A.heap.size → Stands w.heap.size A B)
    (hKt : ∀ A B C, Kp A B → Kp B C → Kp A C) (hKr : ∀ A o, Kp A (A.putObj (w.heap.size + 1) o)) (hZr : ∀ s A o, Z s A → Z s (A.putObj (w.heap.size + 1) o))
    (I : List α → World → Prop) (Ix : Code → List α → World → Prop)
    (hI : ∀ s A B, I s A → T A B → I s B) (hIx : ∀ c s A B, Ix c s A → T A B → Ix c s B)
    (hIr : ∀ s A o, I s A → I s (A.putObj (w.heap.size + 1) o)) (hIxr : ∀ c s A o, Ix c s A → Ix c s (A.putObj (w.heap.size + 1) o))
    (h0 : ∀ r, I [] (begun w r)) (act : α → Act)
    (hassign : ∀ (l : Nat) (x : α) (A : World) (K : Act → World → Prop), K (act x) A → assign.wpIn (F.inRound l) (n - 1 - 1) P (Exit.then K (fun _ _ _ => False)) { tmps := (ps.zip (encs x)).foldl (fun t (p, v) => t.setIfInBounds p v) a.tmps, defers := [] } A)
    (hbody : ∀ (l : Nat) (pre : List α) (x : α) (A : World), I pre A → w.heap.size + 1 < A.heap.size → Z (pre ++ [x]) A → body.wpIn (F.inRound l) (n - 1 - 1) P (EndsT w.heap.size Kp I Ix (pre ++ [x]) A) (act x) A)
    (hdone : ∀ (xs : List α) (A : World), S xs → I xs A → A.heap[w.heap.size]? = some (.deferred (some [])) → Q .normal { a with defers := { target := .collected w.heap.size, args := #[] } :: a.defers } A)
    (hstop : ∀ (c : Code) (pre : List α) (A : World), Sp pre → Ix c pre A → A.heap[w.heap.size]? = some (.deferred (some [])) → c.wpIn F n P Q { a with defers := { target := .collected w.heap.size, args := #[] } :: a.defers } A) :
    (Code.rangeFunc g ps assign body).wpIn F n P Q a w := by
  refine wpIn_rangeFunc fun fn hfn => ?_
  let r (s : LoopState) (j : Option Code) : Loop := { state := s, pending := j, fn, tmps := a.tmps, params := ps, assign, body, defers := w.heap.size }
  have hw0 := begun_size w (r .ready none)
  refine ⟨w.heap.size + 1, [{ target := .collected w.heap.size, args := #[] }], begun w (r .ready none), { target := .fn (.func gf) lb, args := #[.func (.yield (w.heap.size + 1)) #[] #[]] }, begun w (r .ready none), gf, #[.func (.yield (w.heap.size + 1)) #[] #[]] ++ lb, begun w (r .ready none), ?_, ?_, ?_, ?_, fun _ => h1, ?_⟩
  · rw [hro]; exact run_enterLoop_outer _ _ _ _ _
  · simp only [resolve, hg]; simp [go_sem]
  · intro f' hf'; simp [Target.leads] at hf'; subst hf'; exact hF
  · simp [invoke, go_sem, henter]
  refine (hseq (r .ready none) (w.heap.size + 1)
    (fun pre A => I pre A ∧ A.heap[w.heap.size + 1]? = some (.loop (r .ready none)) ∧ A.heap[w.heap.size]? = some (.deferred (some [])))
    (fun pre A => ∃ c, Ix c pre A ∧ A.heap[w.heap.size + 1]? = some (.loop (r .done (some c))) ∧ A.heap[w.heap.size]? = some (.deferred (some [])))
    ?_ ?_ ?_ ⟨h0 _, begun_loop _ _, begun_late _ _⟩).mono ?_
  · rintro s A B ⟨hi, hl, hd⟩ ht
    obtain ⟨e1, e2⟩ := hT A B ht (Array.getElem?_eq_some_iff.1 hl).1
    exact ⟨hI s A B hi ht, e2.trans hl, e1.trans hd⟩
  · rintro s A B ⟨c, hi, hl, hd⟩ ht
    obtain ⟨e1, e2⟩ := hT A B ht (Array.getElem?_eq_some_iff.1 hl).1
    exact ⟨c, hIx c s A B hi ht, e2.trans hl, e1.trans hd⟩
  · rintro pre x A ⟨hi, hl, hd⟩ hz
    have hlt : w.heap.size + 1 < A.heap.size := (Array.getElem?_eq_some_iff.1 hl).1
    refine ⟨fn, _, assign, body, run_yield (P := P) (args := encs x) hl (hps x), roundIn_of_wpIn hfn (hassign _ x A _ ⟨_, run_beginRound hl rfl, ?_⟩)⟩
    have hl2 : (A.putObj (w.heap.size + 1) (.loop (r .busy none))).heap[w.heap.size + 1]? = some (.loop (r .busy none)) := World.putObj_heap_same hlt
    have hd2 : (A.putObj (w.heap.size + 1) (.loop (r .busy none))).heap[w.heap.size]? = some (.deferred (some [])) := (World.putObj_heap_other (by omega)).trans hd
    have hend : ∀ (j : Option Code) (B : World), Stands w.heap.size (A.putObj (w.heap.size + 1) (.loop (r .busy none))) B →
        (Instr.endRound (w.heap.size + 1) j).run P B = .ok (.bool j.isNone) (B.putObj (w.heap.size + 1) (.loop (r (if j.isNone then .ready else .done) j))) ∧
        (B.putObj (w.heap.size + 1) (.loop (r (if j.isNone then .ready else .done) j))).heap[w.heap.size + 1]? = some (.loop (r (if j.isNone then .ready else .done) j)) ∧
        (B.putObj (w.heap.size + 1) (.loop (r (if j.isNone then .ready else .done) j))).heap[w.heap.size]? = some (.deferred (some [])) := fun j B hs => by
      have hl3 := hs.2.trans hl2
      exact ⟨run_endRound (P := P) j hl3, World.putObj_heap_same (Array.getElem?_eq_some_iff.1 hl3).1, (World.putObj_heap_other (by omega)).trans (hs.1.trans hd2)⟩
    refine wpIn_mono (hbody _ pre x _ (hIr _ _ _ hi) (by simpa using hlt) (hZr _ _ _ hz)) ?_
    rintro e b B ⟨hs, hp⟩
    cases e with
    | normal =>
      obtain ⟨x1, x2, x3⟩ := hend none B hs
      exact ⟨_, _, x1, .inl ⟨rfl, ⟨hIr _ _ _ hp.2, x2, x3⟩, hKt _ _ _ (hKt _ _ _ (hKr _ _) hp.1) (hKr _ _)⟩⟩
    | ret =>
      obtain ⟨x1, x2, x3⟩ := hend (some .ret) B hs
      exact ⟨_, _, x1, .inr ⟨rfl, .ret, hIxr _ _ _ _ hp, x2, x3⟩⟩
    | exit i =>
      obtain ⟨x1, x2, x3⟩ := hend (some (.exit i)) B hs
      exact ⟨_, _, x1, .inr ⟨rfl, .exit i, hIxr _ _ _ _ hp, x2, x3⟩⟩
    | goto t =>
      obtain ⟨x1, x2, x3⟩ := hend (some (.goto t)) B hs
      exact ⟨_, _, x1, .inr ⟨rfl, .goto t, hIxr _ _ _ _ hp, x2, x3⟩⟩
    | panic ch => exact hp.elim
    | outgrown => exact hp.elim
  · rintro e B ⟨⟨v, rfl⟩, (⟨xs, hS, hi, hl, hd⟩ | ⟨pre, hS, c, hi, hl, hd⟩)⟩
    · exact ⟨none, _, run_endLoop (P := P) hl (by simp [r]), hdone xs _ hS (hIr _ _ _ hi) ((World.putObj_heap_other (by omega)).trans hd)⟩
    · exact ⟨some c, _, run_endLoop (P := P) hl (by simp [r]), hstop c pre _ hS (hIxr _ _ _ _ hi) ((World.putObj_heap_other (by omega)).trans hd)⟩
end
end Go.Proofs.Ytoljlpddcpdoiaa
