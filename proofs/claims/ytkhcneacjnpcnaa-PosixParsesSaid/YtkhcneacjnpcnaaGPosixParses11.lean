/- Merged: RulO. -/
import Derived.Test.YtkhcneacjnpcnaaGPosixParses10
namespace Go.Proofs.Ytkhcneacjnpcnaa
open Go.RowKit
set_option linter.unusedVariables false
set_option linter.unusedSimpArgs false

/-! a point that must stand -/
def muK (l : List UInt8) (k : Nat) (e : Int) : Nat := if (rs l k e).head? = some 46 then k + 1 else k
def muR (l : List UInt8) (k : Nat) (e : Int) : Int := if (rs l k e).head? = some 46 then e else flE e 2
theorem al_46 (b : UInt8) : al b 46 = (b == 46) := by
  have h : ∀ n, n < 256 → al (UInt8.ofNat n) 46 = (UInt8.ofNat n == 46) := by decide +kernel
  have := h b.toNat b.toNat_lt
  simpa using this
theorem mu_is (l : List UInt8) (k : Nat) (e : Int) : fdK k (rs l k e) e [46] = muK l k e ∧ muE (rs l k e) e [46] = muR l k e := by
  have h : fdT (rs l k e) e [46] = ((rs l k e).head? == some 46) := by
    unfold fdT
    by_cases he : e = 0
    · subst he
      cases hr : rs l k 0 with
      | nil => rfl
      | cons a r =>
        show (_ && (al a 46 && fmB r [])) = _
        rw [fmB_nil, al_46]
        simp
    · rw [rs_bad _ _ he]
      have : (e == 0) = false := by simpa using he
      rw [this]; rfl
  unfold fdK muE muK muR
  rw [h]
  by_cases c : (rs l k e).head? = some 46
  · rw [if_pos c, if_pos c, if_pos (by rw [c]; rfl), if_pos (by rw [c]; rfl)]; exact ⟨rfl, rfl⟩
  · have : ((rs l k e).head? == some 46) = false := by simpa using c
    rw [if_neg c, if_neg c, this]; exact ⟨rfl, rfl⟩
theorem muK_le (l : List UInt8) {k : Nat} (e : Int) (h : k ≤ l.length) : muK l k e ≤ l.length := by
  unfold muK; split
  · next c => exact head16 c
  · exact h
theorem muR_bad (l : List UInt8) (k : Nat) {e : Int} (h : e ≠ 0) : muR l k e = e := by
  unfold muR; rw [rs_bad _ _ h, fl_bad _ h]; split <;> rfl
theorem mu_yes {l t : List UInt8} {k : Nat} (h : l.drop k = 46 :: t) : muR l k 0 = 0 ∧ muK l k 0 = k + 1 ∧ l.drop (k + 1) = t := by
  have c : (rs l k 0).head? = some 46 := by rw [rs_zero, h]; rfl
  unfold muR muK; rw [if_pos c, if_pos c]; exact ⟨rfl, rfl, by rw [drop_add h]; rfl⟩
theorem mu_no {l : List UInt8} {k : Nat} (h : (l.drop k).head? ≠ some 46) : muR l k 0 = 2 := by
  unfold muR; rw [rs_zero, if_neg h]; rfl

/-! ahead of the slash -/
theorem isd_47 : isd 47 = false := by decide
theorem isd_46 : isd 46 = false := by decide
theorem lead_q : ∀ r : List UInt8, lead (qb 47 r) = lead r
  | [] => rfl
  | b :: r => by
    by_cases e : b = 47
    · subst e; rw [qb_stop]; rfl
    · rw [qb_go r e]; unfold lead; rw [lead_q r]
theorem q_drop {r : List UInt8} {D : Nat} (h : D ≤ lead r) : (qb 47 r).drop D = qb 47 (r.drop D) ∧ (qb 47 r).take D = r.take D := by
  have hl := lead_le r
  have e := List.take_append_drop D r
  have g := qb_app 47 (r.drop D) (lead_ne isd_47 h)
  rw [e] at g
  have hn : (r.take D).length = D := by rw [List.length_take]; omega
  rw [g]
  refine ⟨?_, ?_⟩
  · rw [List.drop_append_of_le_length (by omega), List.drop_of_length_le (by omega), List.nil_append]
  · rw [List.take_append_of_le_length (by omega), List.take_of_length_le (by omega)]
theorem q_nil {r : List UInt8} (h : qb 47 r = []) : r = [] ∨ ∃ t, r = 47 :: t := by
  cases r with
  | nil => exact .inl rfl
  | cons b r =>
    by_cases e : b = 47
    · exact .inr ⟨r, by rw [e]⟩
    · rw [qb_go r e] at h; cases h
theorem q_cons {r t : List UInt8} {x : UInt8} (h : qb 47 r = x :: t) : x ≠ 47 ∧ ∃ r', r = x :: r' ∧ qb 47 r' = t := by
  cases r with
  | nil => cases h
  | cons b r =>
    by_cases e : b = 47
    · subst e; rw [qb_stop] at h; cases h
    · rw [qb_go r e] at h
      injection h with h1 h2
      subst h1
      exact ⟨e, r, rfl, h2⟩
theorem q_rest (l : List UInt8) : (l.drop (qb 47 l).length = [] ∧ (qb 47 l).length = l.length) ∨ ((qb 47 l).length < l.length ∧ ∃ t, l.drop (qb 47 l).length = 47 :: t) := by
  have hle := qb_len 47 l
  have e := List.take_append_drop (qb 47 l).length l
  rw [← qb_pre] at e
  cases hd : l.drop (qb 47 l).length with
  | nil =>
    have := List.drop_eq_nil_iff.1 hd
    exact .inl ⟨rfl, by omega⟩
  | cons x t =>
    have hlt : (qb 47 l).length < l.length := by
      rcases Nat.lt_or_ge (qb 47 l).length l.length with c | c
      · exact c
      · rw [List.drop_eq_nil_of_le c] at hd; cases hd
    by_cases hx : x = 47
    · exact .inr ⟨hlt, t, by rw [hx]⟩
    · exfalso
      rw [hd] at e
      have hm : ∀ b ∈ qb 47 l, b ≠ 47 := by
        intro b hb
        unfold qb at hb
        have := List.all_takeWhile (p := (· != (47 : UInt8))) (l := l)
        rw [List.all_eq_true] at this
        simpa using this b hb
      have g := qb_app 47 (x :: t) hm
      rw [e, qb_go t hx] at g
      have := congrArg List.length g
      rw [List.length_append, List.length_cons] at this
      omega

/-! ### a rule's day -/
/-- A text as a rule's day: its kind, month, week, day. -/
def dyP (d : List UInt8) : Option (Int × Int × Int × Int) :=
  if d.head? = some 74 then (if fg 1 3 (d.drop 1) then some (1, 0, 0, ((dv (d.drop 1) : Nat) : Int)) else none)
  else if d.head? = some 77 then
    (match spt 46 (d.drop 1) with
    | [a, b, c] => if fg 1 2 a ∧ fg 1 1 b ∧ fg 1 1 c then some (3, ((dv a : Nat) : Int), ((dv b : Nat) : Int), ((dv c : Nat) : Int)) else none
    | _ => none)
  else (if fg 1 3 d then some (2, 0, 0, ((dv d : Nat) : Int)) else none)
/-- What the scanner makes of the weekly kind. -/
def wN1 (l : List UInt8) : Int := fgN (rs l 1 0) 0 1 2
def wK1 (l : List UInt8) : Nat := fgK 1 (rs l 1 0) 0 1 2
def wE1 (l : List UInt8) : Int := fgE (rs l 1 0) 0 1 2
def wK2 (l : List UInt8) : Nat := muK l (wK1 l) (wE1 l)
def wE2 (l : List UInt8) : Int := muR l (wK1 l) (wE1 l)
def wN3 (l : List UInt8) : Int := fgN (rs l (wK2 l) (wE2 l)) (wE2 l) 1 1
def wK3 (l : List UInt8) : Nat := fgK (wK2 l) (rs l (wK2 l) (wE2 l)) (wE2 l) 1 1
def wE3 (l : List UInt8) : Int := fgE (rs l (wK2 l) (wE2 l)) (wE2 l) 1 1
def wK4 (l : List UInt8) : Nat := muK l (wK3 l) (wE3 l)
def wE4 (l : List UInt8) : Int := muR l (wK3 l) (wE3 l)
def wN5 (l : List UInt8) : Int := fgN (rs l (wK4 l) (wE4 l)) (wE4 l) 1 1
def wK5 (l : List UInt8) : Nat := fgK (wK4 l) (rs l (wK4 l) (wE4 l)) (wE4 l) 1 1
def wE5 (l : List UInt8) : Int := fgE (rs l (wK4 l) (wE4 l)) (wE4 l) 1 1
/-- Of the other kinds: from the place j. -/
def dN (l : List UInt8) (j : Nat) : Int := fgN (rs l j 0) 0 1 3
def dK (l : List UInt8) (j : Nat) : Nat := fgK j (rs l j 0) 0 1 3
def dE (l : List UInt8) (j : Nat) : Int := fgE (rs l j 0) 0 1 3
/-- What takeDay gives. -/
def tdR (l : List UInt8) : Ru := if l.head? = some 77 then ⟨3, wN1 l, wN3 l, wN5 l, 0⟩ else if l.head? = some 74 then ⟨1, 0, 0, dN l 1, 0⟩ else ⟨2, 0, 0, dN l 0, 0⟩
def tdk (l : List UInt8) : Nat := if l.head? = some 77 then wK5 l else if l.head? = some 74 then dK l 1 else dK l 0
def tde (l : List UInt8) : Int := if l.head? = some 77 then wE5 l else if l.head? = some 74 then dE l 1 else dE l 0
theorem head_len {l : List UInt8} {b : UInt8} (h : l.head? = some b) : 1 ≤ l.length := by cases l <;> simp at *
theorem wK2_le {l : List UInt8} (h : 1 ≤ l.length) : wK1 l ≤ l.length ∧ wK2 l ≤ l.length ∧ wK3 l ≤ l.length ∧ wK4 l ≤ l.length ∧ wK5 l ≤ l.length := by
  have a : wK1 l ≤ l.length := fgK16_le l 0 1 2 h
  have b : wK2 l ≤ l.length := muK_le l _ a
  have c : wK3 l ≤ l.length := fgK16_le l _ 1 1 b
  have d : wK4 l ≤ l.length := muK_le l _ c
  exact ⟨a, b, c, d, fgK16_le l _ 1 1 d⟩
theorem tdk_le (l : List UInt8) : tdk l ≤ l.length := by
  unfold tdk; split
  · next c => exact (wK2_le (head_len c)).2.2.2.2
  · split
    · next c => exact fgK16_le l 0 1 3 (head_len c)
    · exact fgK16_le l 0 1 3 (Nat.zero_le _)
theorem wN_bd (l : List UInt8) : (0 ≤ wN1 l ∧ wN1 l < 100000) ∧ (0 ≤ wN3 l ∧ wN3 l < 100000) ∧ (0 ≤ wN5 l ∧ wN5 l < 100000) :=
  ⟨fgN16_bd (i := 1) (j := 2) _ _ (by omega) (by omega) (by omega), fgN16_bd (i := 1) (j := 1) _ _ (by omega) (by omega) (by omega), fgN16_bd (i := 1) (j := 1) _ _ (by omega) (by omega) (by omega)⟩
theorem dN_bd (l : List UInt8) (j : Nat) : 0 ≤ dN l j ∧ dN l j < 100000 := fgN16_bd (i := 1) (j := 3) _ _ (by omega) (by omega) (by omega)

/-- Figures alone, up to a slash. -/
theorem dg_is (l : List UInt8) (j : Nat) :
    (dE l j = 2 ∧ ¬ fg 1 3 (qb 47 (l.drop j))) ∨ (dE l j = 0 ∧ ¬ fg 1 3 (qb 47 (l.drop j)) ∧ ∃ x t, l.drop (dK l j) = x :: t ∧ x ≠ 47) ∨
    (dE l j = 0 ∧ dK l j = j + (qb 47 (l.drop j)).length ∧ fg 1 3 (qb 47 (l.drop j)) ∧ dN l j = ((dv (qb 47 (l.drop j)) : Nat) : Int)) := by
  obtain ⟨r, hr⟩ : ∃ r, r = l.drop j := ⟨_, rfl⟩
  rw [← hr]
  have z : rs l j 0 = r := rs16 hr.symm
  have hl := lead_le r
  unfold dE dK dN
  rw [z]
  rcases nx isd_47 (i := 1) (j := 3) (by omega) (by omega) r with ⟨h, hp⟩ | ⟨h, hd, -, hq, ht, hf⟩ | ⟨h, ⟨t, hd, -⟩, hq, hf⟩ | ⟨h, ⟨x, t, hd, hx⟩, hp⟩
  · exact .inl ⟨fg_no (i := 1) (j := 3) (by omega) (by omega) (by omega) h, hp⟩
  · obtain ⟨f1, f2, f3⟩ := fg_yes (i := 1) (j := 3) (by omega) (by omega) (by omega) h j
    rw [ht] at f3 hf
    have := congrArg List.length ht
    rw [List.length_take] at this
    rw [hq]
    exact .inr (.inr ⟨f1, f2.trans (by omega), hf, f3⟩)
  · obtain ⟨f1, f2, f3⟩ := fg_yes (i := 1) (j := 3) (by omega) (by omega) (by omega) h j
    rw [hq]
    exact .inr (.inr ⟨f1, f2.trans (by rw [List.length_take]; omega), hf, f3⟩)
  · obtain ⟨f1, f2, f3⟩ := fg_yes (i := 1) (j := 3) (by omega) (by omega) (by omega) h j
    exact .inr (.inl ⟨f1, hp, x, t, (congrArg (fun n => l.drop n) f2).trans (by rw [drop_add hr.symm]; exact hd), hx⟩)

theorem sp3_no1 {d p : List UInt8} {ps : List (List UInt8)} (h1 : d.head? = some 77) (h : spt 46 (d.drop 1) = p :: ps) (hp : ¬ fg 1 2 p ∨ ps = []) : dyP d = none := by
  unfold dyP; rw [if_neg (by rw [h1]; decide), if_pos h1, h]
  match ps with
  | [] => rfl
  | [_] => rfl
  | [b, c] => exact if_neg fun f => hp.elim (fun g => g f.1) (fun g => by cases g)
  | _ :: _ :: _ :: _ => rfl
theorem sp3_no2 {d a p : List UInt8} {ps : List (List UInt8)} (h1 : d.head? = some 77) (h : spt 46 (d.drop 1) = a :: p :: ps) (hp : ¬ fg 1 1 p ∨ ps = []) : dyP d = none := by
  unfold dyP; rw [if_neg (by rw [h1]; decide), if_pos h1, h]
  match ps with
  | [] => rfl
  | [c] => exact if_neg fun f => hp.elim (fun g => g f.2.1) (fun g => by cases g)
  | _ :: _ :: _ => rfl
theorem sp3_no3 {d a b p : List UInt8} {ps : List (List UInt8)} (h1 : d.head? = some 77) (h : spt 46 (d.drop 1) = a :: b :: p :: ps) (hp : ps = [] → ¬ fg 1 1 p) : dyP d = none := by
  unfold dyP; rw [if_neg (by rw [h1]; decide), if_pos h1, h]
  match ps with
  | [] => exact if_neg fun f => hp rfl f.2.2
  | _ :: _ => rfl

/-- One number of a weekly rule: ahead of a point, or not. -/
theorem wk_step {l r : List UInt8} {k : Nat} {j : Nat} (hj : 1 ≤ j) (hj2 : j ≤ 2) (h : l.drop k = r) :
    (fgE r 0 (1 : Nat) j = 2 ∧ ¬ fg 1 j (qb 46 (qb 47 r))) ∨
    (fgE r 0 (1 : Nat) j = 0 ∧ muR l (fgK k r 0 (1 : Nat) j) 0 = 2 ∧ (¬ fg 1 j (qb 46 (qb 47 r)) ∨ spt 46 (qb 47 r) = [qb 46 (qb 47 r)])) ∨
    (fgE r 0 (1 : Nat) j = 0 ∧ muR l (fgK k r 0 (1 : Nat) j) 0 = 0 ∧ ∃ r' a, l.drop (muK l (fgK k r 0 (1 : Nat) j) 0) = r' ∧ spt 46 (qb 47 r) = a :: spt 46 (qb 47 r') ∧ fg 1 j a ∧ fgN r 0 (1 : Nat) j = ((dv a : Nat) : Int) ∧
      muK l (fgK k r 0 (1 : Nat) j) 0 + (qb 47 r').length = k + (qb 47 r).length) := by
  have hq := lead_q r
  have hl := lead_le (qb 47 r)
  rcases nx isd_46 (i := 1) (j := j) (by omega) (by omega) (qb 47 r) with ⟨c, hp⟩ | ⟨c, hd, hs, hq2, ht, hf⟩ | ⟨c, ⟨t, hd, hs⟩, hq2, hf⟩ | ⟨c, ⟨x, t, hd, hx⟩, hp⟩
  · rw [hq] at c
    exact .inl ⟨fg_no (i := 1) (j := j) (by omega) (by omega) (by omega) c, hp⟩
  all_goals
    rw [hq] at c
    obtain ⟨f1, f2, f3⟩ := fg_yes (i := 1) (j := j) (r := r) (by omega) (by omega) (by omega) c k
    obtain ⟨g1, g2⟩ := q_drop (r := r) (D := min (lead r) j) (by omega)
    rw [hq, g1] at hd
    have hk : l.drop (fgK k r 0 (1 : Nat) j) = r.drop (min (lead r) j) := by rw [f2, drop_add h]
  · refine .inr (.inl ⟨f1, mu_no ?_, .inr (by rw [hs, hq2, ht])⟩)
    rw [hk]
    rcases q_nil hd with e | ⟨t, e⟩ <;> rw [e] <;> simp
  · obtain ⟨-, r', e1, e2⟩ := q_cons hd
    rw [e1] at hk
    obtain ⟨m1, m2, m3⟩ := mu_yes hk
    refine .inr (.inr ⟨f1, m1, r', _, ?_, by rw [hs, e2], hf, ?_, ?_⟩)
    · rw [m2]; exact m3
    · rw [hq, g2]; exact f3
    · rw [m2, f2, e2]
      have := congrArg List.length hd
      rw [← g1, List.length_drop, List.length_cons] at this
      omega
  · refine .inr (.inl ⟨f1, mu_no ?_, .inl hp⟩)
    rw [hk]
    obtain ⟨-, r', e1, -⟩ := q_cons hd
    rw [e1]
    exact head_ne hx
/-- The last number of a weekly rule. -/
theorem wk_last {l r : List UInt8} {k : Nat} (h : l.drop k = r) :
    (fgE r 0 (1 : Nat) (1 : Nat) = 2 ∧ ¬ fg 1 1 (qb 46 (qb 47 r))) ∨
    (fgE r 0 (1 : Nat) (1 : Nat) = 0 ∧ (¬ fg 1 1 (qb 46 (qb 47 r)) ∨ ∃ a p ps, spt 46 (qb 47 r) = a :: p :: ps) ∧ ∃ x t, l.drop (fgK k r 0 (1 : Nat) (1 : Nat)) = x :: t ∧ x ≠ 47) ∨
    (fgE r 0 (1 : Nat) (1 : Nat) = 0 ∧ ∃ a, spt 46 (qb 47 r) = [a] ∧ fg 1 1 a ∧ fgN r 0 (1 : Nat) (1 : Nat) = ((dv a : Nat) : Int) ∧ fgK k r 0 (1 : Nat) (1 : Nat) = k + (qb 47 r).length) := by
  have hq := lead_q r
  have hl := lead_le (qb 47 r)
  rcases nx isd_46 (i := 1) (j := 1) (by omega) (by omega) (qb 47 r) with ⟨c, hp⟩ | ⟨c, hd, hs, hq2, ht, hf⟩ | ⟨c, ⟨t, hd, hs⟩, hq2, hf⟩ | ⟨c, ⟨x, t, hd, hx⟩, hp⟩
  · rw [hq] at c
    exact .inl ⟨fg_no (i := 1) (j := 1) (by omega) (by omega) (by omega) c, hp⟩
  all_goals
    rw [hq] at c
    obtain ⟨f1, f2, f3⟩ := fg_yes (i := 1) (j := 1) (r := r) (by omega) (by omega) (by omega) c k
    obtain ⟨g1, g2⟩ := q_drop (r := r) (D := min (lead r) 1) (by omega)
    rw [hq, g1] at hd
    have hk : l.drop (fgK k r 0 (1 : Nat) (1 : Nat)) = r.drop (min (lead r) 1) := by rw [f2, drop_add h]
  · refine .inr (.inr ⟨f1, _, hs, hf, ?_, ?_⟩)
    · rw [hq, g2]; exact f3
    · rw [f2]
      have := congrArg List.length hd
      rw [← g1, List.length_drop] at this
      rw [hq] at hl
      simp at this
      omega
  · obtain ⟨hne, r', e1, e2⟩ := q_cons hd
    obtain ⟨ps, hps⟩ := spt_head 46 t
    exact .inr (.inl ⟨f1, .inr ⟨_, _, _, by rw [hs, hps]⟩, 46, r', by rw [hk, e1], by decide⟩)
  · obtain ⟨hne, r', e1, e2⟩ := q_cons hd
    exact .inr (.inl ⟨f1, .inl hp, x, r', by rw [hk, e1], hne⟩)

/-- What the scanner makes of a rule's day. -/
theorem td_is (l : List UInt8) :
    (tde l = 2 ∧ dyP (qb 47 l) = none) ∨ (tde l = 0 ∧ dyP (qb 47 l) = none ∧ ∃ x t, l.drop (tdk l) = x :: t ∧ x ≠ 47) ∨
    (tde l = 0 ∧ tdk l = (qb 47 l).length ∧ dyP (qb 47 l) = some ((tdR l).K, (tdR l).M, (tdR l).W, (tdR l).D)) := by
  by_cases c : l.head? = some 77
  · obtain ⟨r, rfl⟩ : ∃ r, l = 77 :: r := by
      cases l with
      | nil => cases c
      | cons a r => injection c with c; exact ⟨r, by rw [c]⟩
    have e1 : tde (77 :: r) = wE5 (77 :: r) := if_pos c
    have e2 : tdk (77 :: r) = wK5 (77 :: r) := if_pos c
    have e3 : tdR (77 :: r) = ⟨3, wN1 (77 :: r), wN3 (77 :: r), wN5 (77 :: r), 0⟩ := if_pos c
    have hq : qb 47 (77 :: r) = 77 :: qb 47 r := qb_go r (by decide)
    have hh : (qb 47 (77 :: r)).head? = some 77 := by rw [hq]; rfl
    have hd1 : (qb 47 (77 :: r)).drop 1 = qb 47 r := by rw [hq]; rfl
    have hlen : (qb 47 (77 :: r)).length = 1 + (qb 47 r).length := by rw [hq, List.length_cons]; omega
    rw [e1, e2, e3]
    have z1 : rs (77 :: r) 1 0 = r := by rw [rs_zero]; rfl
    have b3 : wE2 (77 :: r) = 2 → wE5 (77 :: r) = 2 := by
      intro h
      have h3 : wE3 (77 :: r) = 2 := by unfold wE3; rw [h]; exact fgE16_bad (by decide)
      have h4 : wE4 (77 :: r) = 2 := by unfold wE4; rw [h3]; exact muR_bad _ _ (by decide)
      unfold wE5; rw [h4]; exact fgE16_bad (by decide)
    have b5 : wE4 (77 :: r) = 2 → wE5 (77 :: r) = 2 := by
      intro h4
      unfold wE5; rw [h4]; exact fgE16_bad (by decide)
    obtain ⟨ps1, hp1⟩ := spt_head 46 (qb 47 r)
    rcases wk_step (l := 77 :: r) (r := r) (k := 1) (j := 2) (by omega) (by omega) rfl with ⟨a, b⟩ | ⟨a, a2, b⟩ | ⟨a, a2, r2, n1, d2, s2, f2, v1, len2⟩
    · refine .inl ⟨b3 ?_, sp3_no1 hh (by rw [hd1]; exact hp1) (.inl b)⟩
      have h1 : wE1 (77 :: r) = 2 := by unfold wE1; rw [z1]; exact a
      unfold wE2; rw [h1]; exact muR_bad _ _ (by decide)
    · refine .inl ⟨b3 ?_, sp3_no1 hh (by rw [hd1]; exact hp1) ?_⟩
      · have h1 : wE1 (77 :: r) = 0 := by unfold wE1; rw [z1]; exact a
        have k1 : wK1 (77 :: r) = fgK 1 r 0 (1 : Nat) (2 : Nat) := by unfold wK1; rw [z1]; rfl
        unfold wE2; rw [h1, k1]; exact a2
      · rcases b with b | b
        · exact .inl b
        · rw [hp1] at b; injection b with _ b; exact .inr b
    · have h1 : wE1 (77 :: r) = 0 := by unfold wE1; rw [z1]; exact a
      have k1 : wK1 (77 :: r) = fgK 1 r 0 (1 : Nat) (2 : Nat) := by unfold wK1; rw [z1]; rfl
      have x1 : wN1 (77 :: r) = ((dv n1 : Nat) : Int) := by unfold wN1; rw [z1]; exact v1
      have h2 : wE2 (77 :: r) = 0 := by unfold wE2; rw [h1, k1]; exact a2
      have k2 : wK2 (77 :: r) = muK (77 :: r) (fgK 1 r 0 (1 : Nat) (2 : Nat)) 0 := by unfold wK2; rw [h1, k1]
      rw [← k2] at d2 len2
      have z2 : rs (77 :: r) (wK2 (77 :: r)) 0 = r2 := rs16 d2
      obtain ⟨ps2, hp2⟩ := spt_head 46 (qb 47 r2)
      rcases wk_step (j := 1) (by omega) (by omega) d2 with ⟨a', b'⟩ | ⟨a', a2', b'⟩ | ⟨a', a2', r3, n2, d3, s3, f3, v2, len3⟩
      · refine .inl ⟨b5 ?_, sp3_no2 hh (by rw [hd1, s2, hp2]) (.inl b')⟩
        have h3 : wE3 (77 :: r) = 2 := by unfold wE3; rw [h2, z2]; exact a'
        unfold wE4; rw [h3]; exact muR_bad _ _ (by decide)
      · refine .inl ⟨b5 ?_, sp3_no2 hh (by rw [hd1, s2, hp2]) ?_⟩
        · have h3 : wE3 (77 :: r) = 0 := by unfold wE3; rw [h2, z2]; exact a'
          have k3 : wK3 (77 :: r) = fgK (wK2 (77 :: r)) r2 0 (1 : Nat) (1 : Nat) := by unfold wK3; rw [h2, z2]; rfl
          unfold wE4; rw [h3, k3]; exact a2'
        · rcases b' with b' | b'
          · exact .inl b'
          · rw [hp2] at b'; injection b' with _ b'; exact .inr b'
      · have h3 : wE3 (77 :: r) = 0 := by unfold wE3; rw [h2, z2]; exact a'
        have k3 : wK3 (77 :: r) = fgK (wK2 (77 :: r)) r2 0 (1 : Nat) (1 : Nat) := by unfold wK3; rw [h2, z2]; rfl
        have x3 : wN3 (77 :: r) = ((dv n2 : Nat) : Int) := by unfold wN3; rw [h2, z2]; exact v2
        have h4 : wE4 (77 :: r) = 0 := by unfold wE4; rw [h3, k3]; exact a2'
        have k4 : wK4 (77 :: r) = muK (77 :: r) (fgK (wK2 (77 :: r)) r2 0 (1 : Nat) (1 : Nat)) 0 := by unfold wK4; rw [h3, k3]
        rw [← k4] at d3 len3
        have z3 : rs (77 :: r) (wK4 (77 :: r)) 0 = r3 := rs16 d3
        obtain ⟨ps3, hp3⟩ := spt_head 46 (qb 47 r3)
        have E5 : wE5 (77 :: r) = fgE r3 0 (1 : Nat) (1 : Nat) := by unfold wE5; rw [h4, z3]; rfl
        have K5 : wK5 (77 :: r) = fgK (wK4 (77 :: r)) r3 0 (1 : Nat) (1 : Nat) := by unfold wK5; rw [h4, z3]; rfl
        have N5 : wN5 (77 :: r) = fgN r3 0 (1 : Nat) (1 : Nat) := by unfold wN5; rw [h4, z3]; rfl
        rcases wk_last d3 with ⟨a'', b''⟩ | ⟨a'', b'', x, t, dx, hx⟩ | ⟨a'', n3, s4, f4, v3, len4⟩
        · exact .inl ⟨E5.trans a'', sp3_no3 hh (by rw [hd1, s2, s3, hp3]) (fun _ => b'')⟩
        · refine .inr (.inl ⟨E5.trans a'', ?_, x, t, by rw [K5]; exact dx, hx⟩)
          rcases b'' with b'' | ⟨p, p', ps, b''⟩
          · exact sp3_no3 hh (by rw [hd1, s2, s3, hp3]) (fun _ => b'')
          · exact sp3_no3 hh (by rw [hd1, s2, s3, b'']) (fun c => by cases c)
        · refine .inr (.inr ⟨E5.trans a'', by rw [K5, len4, len3, len2, hlen], ?_⟩)
          unfold dyP
          rw [if_neg (by rw [hh]; decide), if_pos hh, hd1, s2, s3, s4]
          show (if fg 1 2 n1 ∧ fg 1 1 n2 ∧ fg 1 1 n3 then _ else _) = some (3, wN1 (77 :: r), wN3 (77 :: r), wN5 (77 :: r))
          rw [if_pos ⟨f2, f3, f4⟩, x1, x3, N5, v3]
  · by_cases d : l.head? = some 74
    · obtain ⟨r, rfl⟩ : ∃ r, l = 74 :: r := by
        cases l with
        | nil => cases d
        | cons a r => injection d with d; exact ⟨r, by rw [d]⟩
      have e1 : tde (74 :: r) = dE (74 :: r) 1 := by unfold tde; rw [if_neg c, if_pos d]
      have e2 : tdk (74 :: r) = dK (74 :: r) 1 := by unfold tdk; rw [if_neg c, if_pos d]
      have e3 : tdR (74 :: r) = ⟨1, 0, 0, dN (74 :: r) 1, 0⟩ := by unfold tdR; rw [if_neg c, if_pos d]
      have hq : qb 47 (74 :: r) = 74 :: qb 47 r := qb_go r (by decide)
      have hy : dyP (qb 47 (74 :: r)) = if fg 1 3 (qb 47 r) then some (1, 0, 0, ((dv (qb 47 r) : Nat) : Int)) else none := by rw [hq]; rfl
      rw [e1, e2, e3, hy]
      rcases dg_is (74 :: r) 1 with ⟨a, b⟩ | ⟨a, b, x⟩ | ⟨a, k, b, n⟩
      · exact .inl ⟨a, if_neg b⟩
      · exact .inr (.inl ⟨a, if_neg b, x⟩)
      · refine .inr (.inr ⟨a, by rw [k, hq, List.length_cons]; show 1 + (qb 47 r).length = _; omega, ?_⟩)
        rw [n]; exact if_pos b
    · have e1 : tde l = dE l 0 := by unfold tde; rw [if_neg c, if_neg d]
      have e2 : tdk l = dK l 0 := by unfold tdk; rw [if_neg c, if_neg d]
      have e3 : tdR l = ⟨2, 0, 0, dN l 0, 0⟩ := by unfold tdR; rw [if_neg c, if_neg d]
      have hn : ∀ b : UInt8, l.head? ≠ some b → (qb 47 l).head? ≠ some b := by
        intro b hb
        cases l with
        | nil => exact hb
        | cons a r =>
          by_cases h : a = 47
          · subst h; rw [qb_stop]; simp
          · rw [qb_go r h]; exact hb
      have hy : dyP (qb 47 l) = if fg 1 3 (qb 47 l) then some (2, 0, 0, ((dv (qb 47 l) : Nat) : Int)) else none := by
        unfold dyP; rw [if_neg (hn 74 d), if_neg (hn 77 c)]
      rw [e1, e2, e3, hy]
      rcases dg_is l 0 with ⟨a, b⟩ | ⟨a, b, x⟩ | ⟨a, k, b, n⟩
      · exact .inl ⟨a, if_neg b⟩
      · exact .inr (.inl ⟨a, if_neg b, x⟩)
      · refine .inr (.inr ⟨a, by rw [k]; show 0 + (qb 47 l).length = _; omega, ?_⟩)
        rw [n]; exact if_pos b
end Go.Proofs.Ytkhcneacjnpcnaa
