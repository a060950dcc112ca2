/- An encoding tells contents apart. No condition. -/
import Derived.Test.YtdacjnlfjaegiaaGreatDoorK37
import Derived.Test.YtdacjnlfjaegiaaGreatDoorK25
namespace Go.Proofs.YtdacjnlfjaegiaaGreatDoor
open Go Go.RowKit
set_option linter.unusedVariables false
set_option linter.unusedSimpArgs false

theorem eI_cancel {m n : Int} {r s : List Int} (hm : i64B m) (hn : i64B n) (h : eI m ++ r = eI n ++ s) : m = n ∧ r = s := by
  have d1 := Cd.C.dec_enc (Cd.C.zig_lt ((Cd.C.in64_iff m).2 hm)) r
  have d2 := Cd.C.dec_enc (Cd.C.zig_lt ((Cd.C.in64_iff n).2 hn)) s
  unfold eI at h
  rw [h, d2] at d1
  have d3 := Option.some.inj d1
  have e1 : Cd.C.zig n = Cd.C.zig m := congrArg Prod.fst d3
  have e3 : m = n := by rw [← Cd.C.zag_zig m, ← Cd.C.zag_zig n, e1]
  subst e3
  exact ⟨rfl, List.append_cancel_left h⟩
theorem byt_inj {s t : ByteArray} (h : Cd.byt s = Cd.byt t) : s = t := by
  unfold Cd.byt at h
  have h2 : s.data.toList = t.data.toList := (List.map_inj_right (fun x y (e : (x.toNat : Int) = (y.toNat : Int)) => UInt8.toNat_inj.1 (by omega))).1 h
  exact ByteArray.ext (Array.toList_inj.1 h2)
theorem ent_cancel {s t : ByteArray} {p q : List Int} (hs : s.size ≤ 1000) (ht : t.size ≤ 1000) (h : Cd.ent s ++ p = Cd.ent t ++ q) : s = t ∧ p = q := by
  unfold Cd.ent at h
  rw [List.append_assoc, List.append_assoc] at h
  obtain ⟨e1, e2⟩ := eI_cancel (len64 (show s.size ≤ 1000000 by omega)) (len64 (show t.size ≤ 1000000 by omega)) (show eI (s.size : Int) ++ (Cd.byt s ++ p) = eI (t.size : Int) ++ (Cd.byt t ++ q) from h)
  obtain ⟨e3, e4⟩ := List.append_inj e2 (by rw [Cd.byt_len, Cd.byt_len]; omega)
  exact ⟨byt_inj e3, e4⟩
theorem flat_cancel {α : Type} (f : α → List Int) (P : α → Prop) (hf : ∀ x y p q, P x → P y → f x ++ p = f y ++ q → x = y ∧ p = q) : ∀ (l l' : List α) (p q : List Int), l.length = l'.length → (∀ x ∈ l, P x) → (∀ x ∈ l', P x) → (l.map f).flatten ++ p = (l'.map f).flatten ++ q → l = l' ∧ p = q
  | [], [], p, q, _, _, _, h => ⟨rfl, h⟩
  | x :: r, y :: s, p, q, hl, h1, h2, h => by
    rw [List.map_cons, List.map_cons, List.flatten_cons, List.flatten_cons, List.append_assoc, List.append_assoc] at h
    obtain ⟨e1, e2⟩ := hf _ _ _ _ (h1 x List.mem_cons_self) (h2 y List.mem_cons_self) h
    obtain ⟨e3, e4⟩ := flat_cancel f P hf r s p q (by simpa using hl) (fun z hz => h1 z (List.mem_cons_of_mem _ hz)) (fun z hz => h2 z (List.mem_cons_of_mem _ hz)) e2
    exact ⟨by rw [e1, e3], e4⟩
  | [], _ :: _, _, _, hl, _, _, _ => by simp at hl
  | _ :: _, [], _, _, hl, _, _, _ => by simp at hl
theorem cnt_cancel {α : Type} (f : α → List Int) (P : α → Prop) (hf : ∀ x y p q, P x → P y → f x ++ p = f y ++ q → x = y ∧ p = q) (l l' : List α) (p q : List Int) (n1 : l.length ≤ 200) (n2 : l'.length ≤ 200) (h1 : ∀ x ∈ l, P x) (h2 : ∀ x ∈ l', P x)
    (h : eI (l.length : Int) ++ ((l.map f).flatten ++ p) = eI (l'.length : Int) ++ ((l'.map f).flatten ++ q)) : l = l' ∧ p = q := by
  obtain ⟨e1, e2⟩ := eI_cancel (len64 (show l.length ≤ 1000000 by omega)) (len64 (show l'.length ≤ 1000000 by omega)) h
  exact flat_cancel f P hf l l' p q (by omega) h1 h2 e2
theorem bool_cancel {b c : Bool} {p q : List Int} (h : [if b then (1 : Int) else 0] ++ p = [if c then (1 : Int) else 0] ++ q) : b = c ∧ p = q := by
  cases b <;> cases c <;> simp at h <;> exact ⟨rfl, h⟩
theorem encL_cancel {us us' : List (ByteArray × Int)} {ks ks' : List (Int × Int)} {ns ns' : List Int} (s : SmL us ks) (s' : SmL us' ks') (hu : ∀ p ∈ us, i64B p.2) (hu' : ∀ p ∈ us', i64B p.2) (hk : ∀ p ∈ ks, i64B p.1 ∧ i64B p.2) (hk' : ∀ p ∈ ks', i64B p.1 ∧ i64B p.2)
    (hn : ∀ p ∈ ns, i64B p) (hn' : ∀ p ∈ ns', i64B p) (hl : ns.length = ns'.length) (h : encL us ks ns = encL us' ks' ns') : us = us' ∧ ks = ks' ∧ ns = ns' := by
  unfold encL encU encK encN at h
  rw [List.append_assoc, List.append_assoc, List.append_assoc, List.append_assoc, List.append_assoc, List.append_assoc] at h
  obtain ⟨e1, h⟩ := cnt_cancel (fun p : ByteArray × Int => Cd.ent p.1 ++ eI p.2) (fun p => p.1.size ≤ 1000 ∧ i64B p.2) (fun x y p q hx hy e => by
    rw [List.append_assoc, List.append_assoc] at e
    obtain ⟨a1, e⟩ := ent_cancel hx.1 hy.1 e
    obtain ⟨a2, e⟩ := eI_cancel hx.2 hy.2 e
    exact ⟨Prod.ext a1 a2, e⟩) us us' _ _ s.lu s'.lu (fun p hp => ⟨s.nm p hp, hu p hp⟩) (fun p hp => ⟨s'.nm p hp, hu' p hp⟩) h
  obtain ⟨e2, h⟩ := cnt_cancel (fun p : Int × Int => eI p.1 ++ eI p.2) (fun p => i64B p.1 ∧ i64B p.2) (fun x y p q hx hy e => by
    rw [List.append_assoc, List.append_assoc] at e
    obtain ⟨a1, e⟩ := eI_cancel hx.1 hy.1 e
    obtain ⟨a2, e⟩ := eI_cancel hx.2 hy.2 e
    exact ⟨Prod.ext a1 a2, e⟩) ks ks' _ _ s.lk s'.lk hk hk' h
  have h2 : (ns.map eI).flatten ++ [] = (ns'.map eI).flatten ++ [] := by rw [h]
  exact ⟨e1, e2, (flat_cancel eI i64B (fun x y p q hx hy e => eI_cancel hx hy e) ns ns' [] [] hl hn hn' h2).1⟩
theorem ents_eq (l : List ByteArray) : Cd.ents l = (l.map Cd.ent).flatten := rfl
theorem encC_inj {w : World} {C C' : Cn} {a a' : Ads} (h : IsC w C a) (h' : IsC w C' a') (s : SmE C) (s' : SmE C') (e : encC C = encC C') : C = C' := by
  obtain ⟨tx, n, tg, th, via, al, dn, us, ks, d, x3, x4, x5, x6, x7, x8⟩ := C
  obtain ⟨tx', n', tg', th', via', al', dn', us', ks', d', x3', x4', x5', x6', x7', x8'⟩ := C'
  unfold encC at e
  simp only [List.append_assoc, ents_eq] at e
  obtain ⟨e1, e⟩ := ent_cancel s.tx s'.tx e
  obtain ⟨e2, e⟩ := eI_cancel h.n h'.n e
  obtain ⟨e3, e⟩ := eI_cancel h.tg h'.tg e
  obtain ⟨e4, e⟩ := bool_cancel e
  obtain ⟨e5, e⟩ := ent_cancel s.via s'.via e
  obtain ⟨e6, e⟩ := cnt_cancel Cd.ent (fun t => t.size ≤ 1000) (fun x y p q hx hy e => ent_cancel hx hy e) al al' _ _ s.al s'.al s.al2 s'.al2 e
  obtain ⟨e7, e⟩ := cnt_cancel Cd.ent (fun t => t.size ≤ 1000) (fun x y p q hx hy e => ent_cancel hx hy e) dn dn' _ _ s.dn s'.dn s.dn2 s'.dn2 e
  obtain ⟨e8, e9, e10⟩ := encL_cancel s.lv s'.lv (fun p hp => (h.lv.fu p hp).2) (fun p hp => (h'.lv.fu p hp).2) h.lv.fk h'.lv.fk (nm_bd h.lv.nm) (nm_bd h'.lv.nm) rfl e
  unfold nmL at e10
  injection e10 with f1 e10
  injection e10 with f2 e10
  injection e10 with f3 e10
  injection e10 with f4 e10
  injection e10 with f5 e10
  injection e10 with f6 e10
  injection e10 with f7 e10
  dsimp only at e1 e2 e3 e4 e5 e6 e7 e8 e9 f1 f2 f3 f4 f5 f6 f7
  subst e1 e2 e3 e4 e5 e6 e7 e8 e9 f1 f2 f3 f4 f5 f6 f7
  rfl
theorem sameC_eq {C C' : Cn} (e : sameC C C' = true) : C = C' := by
  obtain ⟨tx, n, tg, th, via, al, dn, us, ks, d, x3, x4, x5, x6, x7, x8⟩ := C
  obtain ⟨tx', n', tg', th', via', al', dn', us', ks', d', x3', x4', x5', x6', x7', x8'⟩ := C'
  unfold sameC sameL at e
  simp only [Bool.and_eq_true, decide_eq_true_eq, sameN_iff] at e
  obtain ⟨e1, e2, e3, e4, e5, e6, e7, e8, e9, e10⟩ := e
  try unfold nmL at e10
  injection e10 with f1 e10
  injection e10 with f2 e10
  injection e10 with f3 e10
  injection e10 with f4 e10
  injection e10 with f5 e10
  injection e10 with f6 e10
  injection e10 with f7 e10
  subst e1 e2 e3 e4 e5 e6 e7 e8 e9 f1 f2 f3 f4 f5 f6 f7
  rfl
theorem enc_same {w : World} {C C' : Cn} {a a' : Ads} (h : IsC w C a) (h' : IsC w C' a') (s : SmE C) (s' : SmE C') : (encC C == encC C') = sameC C C' := by
  rw [Bool.eq_iff_iff, beq_iff_eq]
  exact ⟨fun e => by rw [encC_inj h h' s s' e]; exact sameC_refl _, fun e => by rw [sameC_eq e]⟩
end Go.Proofs.YtdacjnlfjaegiaaGreatDoor
