/- What is encoded is decoded again. No condition. -/
import Derived.Test.YtdacjnlfjaegiaaGreatDoorK46
import Derived.Test.YtdacjnlfjaegiaaGreatDoorK41
namespace Go.Proofs.YtdacjnlfjaegiaaGreatDoor
open Go Go.RowKit
set_option linter.unusedVariables false
set_option linter.unusedSimpArgs false

theorem di_eI {n : Int} (h : i64B n) (r : List Int) : Cd.di (eI n ++ r) = some (n, r) := by
  unfold Cd.di eI
  rw [Cd.C.dec_enc (Cd.C.zig_lt ((Cd.C.in64_iff n).2 h)) r]
  simp only [Option.map_some, Cd.C.zag_zig, List.drop_left]
theorem cnt_eI {n : Nat} {r : List Int} (hn : n ≤ r.length) (h2 : n ≤ 1000000) : Cd.cnt (eI (n : Int) ++ r) = some (n, r) := by
  have hd := Cd.C.dec_enc (Cd.C.zig_lt ((Cd.C.in64_iff (n : Int)).2 (len64 h2))) r
  have h := Cd.cnt_in (zs := eI (n : Int) ++ r) hd (by rw [Cd.C.zag_zig]; omega) (by rw [Cd.C.zag_zig]; show (n : Int) ≤ ((List.drop (Cd.C.enc (Cd.C.zig (n : Int))).length (Cd.C.enc (Cd.C.zig (n : Int)) ++ r)).length : Int); rw [List.drop_left]; omega)
  rw [h, Cd.C.zag_zig, Int.toNat_natCast]
  show some (n, List.drop (Cd.C.enc (Cd.C.zig (n : Int))).length (Cd.C.enc (Cd.C.zig (n : Int)) ++ r)) = _
  rw [List.drop_left]
theorem str_byt (s : ByteArray) : strOfNums (Cd.byt s) = s := byt_inj (Cd.byt_str (Cd.byt_bd s))
theorem dt_ent {s : ByteArray} (h : s.size ≤ 1000) (r : List Int) : Cd.dt (Cd.ent s ++ r) = some (s, r) := by
  have e : Cd.ent s ++ r = eI (s.size : Int) ++ (Cd.byt s ++ r) := by unfold Cd.ent eI; rw [List.append_assoc]
  unfold Cd.dt
  rw [e, cnt_eI (by rw [List.length_append, Cd.byt_len]; omega) (by omega)]
  simp only [Option.map_some]
  rw [← Cd.byt_len s, List.take_left, List.drop_left, str_byt]
theorem lst_enc {α : Type} (f : α → List Int) (one : List Int → Option (α × List Int)) : ∀ (l : List α) (r : List Int), (∀ x ∈ l, ∀ r, one (f x ++ r) = some (x, r)) → Cd.lst one l.length ((l.map f).flatten ++ r) = some (l, r)
  | [], r, _ => rfl
  | x :: l, r, h => by
    rw [List.map_cons, List.flatten_cons, List.append_assoc, List.length_cons]
    unfold Cd.lst
    rw [h x List.mem_cons_self]
    simp only [Option.bind_some]
    rw [lst_enc f one l r (fun y hy => h y (List.mem_cons_of_mem _ hy))]
    rfl
theorem flat_ge {α : Type} (f : α → List Int) : ∀ (l : List α), (∀ x ∈ l, 0 < (f x).length) → l.length ≤ ((l.map f).flatten).length
  | [], _ => Nat.le_refl _
  | x :: l, h => by
    rw [List.map_cons, List.flatten_cons, List.length_append, List.length_cons]
    have := h x List.mem_cons_self
    have := flat_ge f l (fun y hy => h y (List.mem_cons_of_mem _ hy))
    omega
theorem eI_pos {n : Int} (h : i64B n) : 0 < (eI n).length := (Cd.C.enc_bd (Cd.C.zig_lt ((Cd.C.in64_iff n).2 h))).2.1
theorem ent_pos {s : ByteArray} (h : s.size ≤ 1000) : 0 < (Cd.ent s).length := by
  unfold Cd.ent
  rw [List.length_append]
  have := eI_pos (len64 (show s.size ≤ 1000000 by omega))
  unfold eI at this
  omega
theorem gtkI_eI {n : Int} (h : i64B n) (r : List Int) : gtkI (eI n ++ r) false = (n, r, false) := by
  unfold gtkI
  rw [if_neg (by decide), di_eI h]
theorem gtkT_ent {s : ByteArray} (h : s.size ≤ 1000) (r : List Int) : gtkT (Cd.ent s ++ r) false = (s, r, false) := by
  unfold gtkT
  rw [if_neg (by decide), dt_ent h]
theorem gtkB_one (b : Bool) (r : List Int) : gtk Cd.gb (.bool false) ([if b then (1 : Int) else 0] ++ r) false = (.bool b, r, false) := by
  cases b <;> rfl
theorem gtkL_ents {l : List ByteArray} (hl : l.length ≤ 200) (h : ∀ s ∈ l, s.size ≤ 1000) (r : List Int) : gtkL (eI (l.length : Int) ++ (Cd.ents l ++ r)) false = (l, r, false) := by
  unfold gtkL Cd.gts
  rw [if_neg (by decide)]
  have hg := flat_ge Cd.ent l (fun s hs => ent_pos (h s hs))
  rw [cnt_eI (by rw [List.length_append]; show _ ≤ ((l.map Cd.ent).flatten).length + _; omega) (by omega)]
  simp only [Option.bind_some]
  rw [show Cd.ents l = (l.map Cd.ent).flatten from rfl, lst_enc Cd.ent Cd.dt l r (fun s hs r => dt_ent (h s hs) r)]
theorem dU_enc {p : ByteArray × Int} (h : p.1.size ≤ 1000 ∧ i64B p.2) (r : List Int) : dU ((Cd.ent p.1 ++ eI p.2) ++ r) = some (p, r) := by
  unfold dU
  rw [List.append_assoc, dt_ent h.1]
  simp only [Option.bind_some]
  rw [di_eI h.2]
  rfl
theorem dK_enc {p : Int × Int} (h : i64B p.1 ∧ i64B p.2) (r : List Int) : dK ((eI p.1 ++ eI p.2) ++ r) = some (p, r) := by
  unfold dK
  rw [List.append_assoc, di_eI h.1]
  simp only [Option.bind_some]
  rw [di_eI h.2]
  rfl
theorem takes_enc (ns : List Int) (h : ∀ x ∈ ns, i64B x) (r : List Int) : ∀ n, n ≤ ns.length → takes ((ns.map eI).flatten ++ r) false n = (ns.take n, ((ns.drop n).map eI).flatten ++ r, false)
  | 0, _ => by simp [takes]
  | n + 1, hn => by
    have ih := takes_enc ns h r n (by omega)
    have hlt : n < ns.length := by omega
    have e : ((ns.drop n).map eI).flatten ++ r = eI ns[n] ++ (((ns.drop (n + 1)).map eI).flatten ++ r) := by
      rw [List.drop_eq_getElem_cons hlt, List.map_cons, List.flatten_cons, List.append_assoc]
    show ((takes ((ns.map eI).flatten ++ r) false n).1 ++ [(gtkI (takes ((ns.map eI).flatten ++ r) false n).2.1 (takes ((ns.map eI).flatten ++ r) false n).2.2).1], (gtkI (takes ((ns.map eI).flatten ++ r) false n).2.1 (takes ((ns.map eI).flatten ++ r) false n).2.2).2) = _
    rw [ih]
    dsimp only
    rw [e, gtkI_eI (h _ (List.getElem_mem hlt))]
    dsimp only
    rw [← List.take_append_getElem hlt]
theorem dcL_enc {us : List (ByteArray × Int)} {ks : List (Int × Int)} (s : SmL us ks) (hu : ∀ p ∈ us, i64B p.2) (hk : ∀ p ∈ ks, i64B p.1 ∧ i64B p.2) {d x3 x4 x5 x6 x7 x8 : Int} (q : i64B d ∧ i64B x3 ∧ i64B x4 ∧ i64B x5 ∧ i64B x6 ∧ i64B x7 ∧ i64B x8) :
    dcL (encL us ks (nmL d x3 x4 x5 x6 x7 x8)) false = some (⟨us, ks, d, x3, x4, x5, x6, x7, x8⟩, []) := by
  have hn := nm_bd q
  unfold encL encU encK encN
  rw [List.append_assoc, List.append_assoc, List.append_assoc]
  have g1 := flat_ge (fun p : ByteArray × Int => Cd.ent p.1 ++ eI p.2) us (fun p hp => by rw [List.length_append]; have := ent_pos (s.nm p hp); omega)
  have g2 := flat_ge (fun p : Int × Int => eI p.1 ++ eI p.2) ks (fun p hp => by rw [List.length_append]; have := eI_pos (hk p hp).1; omega)
  have hlu := s.lu
  have hlk := s.lk
  unfold dcL
  rw [(cntk_cnt _).1 _ _ (cnt_eI (n := us.length) (by rw [List.length_append]; omega) (by omega))]
  dsimp only
  rw [if_neg (by decide), Int.toNat_natCast, lst_enc (fun p : ByteArray × Int => Cd.ent p.1 ++ eI p.2) dU us _ (fun p hp r => dU_enc ⟨s.nm p hp, hu p hp⟩ r)]
  simp only [Option.bind_some]
  unfold dc2
  rw [(cntk_cnt _).1 _ _ (cnt_eI (n := ks.length) (by rw [List.length_append]; omega) (by omega))]
  dsimp only
  rw [if_neg (by decide), Int.toNat_natCast, lst_enc (fun p : Int × Int => eI p.1 ++ eI p.2) dK ks _ (fun p hp r => dK_enc (hk p hp) r)]
  simp only [Option.bind_some]
  unfold dc3
  have e := takes_enc (nmL d x3 x4 x5 x6 x7 x8) hn [] 7 (Nat.le_refl _)
  rw [List.append_nil] at e
  rw [e]
  rfl
theorem encC_len {w : World} {C : Cn} {a : Ads} (hc : IsC w C a) (hs : SmE C) : (encC C).length ≤ 800000 := by
  unfold encC
  have l0 := (ent_bd2 hs.tx).2
  have l1 := (eI_bd hc.n).2
  have l2 := (eI_bd hc.tg).2
  have l4 := (ent_bd2 hs.via).2
  have l5 := pTs_len hs.al hs.al2
  have l6 := pTs_len hs.dn hs.dn2
  have l7 : (encL C.us C.ks (nmL C.d C.x3 C.x4 C.x5 C.x6 C.x7 C.x8)).length ≤ 209100 := encL_len (fun p hp => ⟨hs.lv.nm p hp, (hc.lv.fu p hp).2⟩) hc.lv.fk (nm_bd hc.lv.nm) hs.lv.lu hs.lv.lk rfl
  have l3 : ([if C.th then (1 : Int) else 0] : List Int).length = 1 := rfl
  rw [List.length_append] at l5 l6
  simp only [List.length_append]
  omega
/-- Decode of an encoding gives the content again. -/
theorem decode_enc {w0 : World} {C : Cn} {a : Ads} (hc : IsC w0 C a) (hs : SmE C) (A : Option Addr) (c : Nat) (w : World) (h : Cd.Sl w A (encC C).length c (encC C)) : Calls Tryz.prog 30 #[.slice A (encC C).length c] w (DcG (some C) w) := by
  have hz : BZ (encC C) := ⟨encC_bd hc hs, encC_len hc hs⟩
  have e0 : encC C = Cd.ent C.tx ++ (eI C.n ++ (eI C.tg ++ ([if C.th then (1 : Int) else 0] ++ (Cd.ent C.via ++ (eI C.al.length ++ (Cd.ents C.al ++ (eI C.dn.length ++ (Cd.ents C.dn ++ encL C.us C.ks (nmL C.d C.x3 C.x4 C.x5 C.x6 C.x7 C.x8))))))))) := by
    unfold encC
    simp only [List.append_assoc]
  have hd := decode30 (encC C) _ _ _ _ _ _ _ false false false false false false false C.tx C.via C.n C.tg C.th C.al C.dn (by rw [e0]; exact gtkT_ent hs.tx _) (gtkI_eI hc.n _) (gtkI_eI hc.tg _) (gtkB_one C.th _) (gtkT_ent hs.via _) (gtkL_ents hs.al hs.al2 _) (gtkL_ents hs.dn hs.dn2 _) hz A c w h
  rw [dcL_enc hs.lv (fun p hp => (hc.lv.fu p hp).2) hc.lv.fk hc.lv.nm] at hd
  exact hd
theorem decode_enc2 {w0 : World} {C : Cn} {a : Ads} (hc : IsC w0 C a) (hs : SmE C) (A : Option Addr) (c : Nat) (w : World) (h : Cd.Sl w A (encC C).length c (encC C)) : Calls Tryz.prog 30 #[.slice A (encC C).length c] w fun e w' => ∃ aL, e = .returned (.tuple #[.agg (ccs C aL).toArray, .bool true]) ∧ IsC w' C aL ∧ Below w.heap.size w w' := by
  refine (decode_enc hc hs A c w h).mono ?_
  rintro e w' ⟨C2, aL, rfl, hi, hb, hr⟩
  have e1 : C = C2 := by
    rcases hr with hr | hr
    · exact Option.some.inj hr
    · cases hr
  subst e1
  exact ⟨aL, rfl, hi, hb⟩
end Go.Proofs.YtdacjnlfjaegiaaGreatDoor
