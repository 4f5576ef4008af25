/- Merged: RulN. -/
import Derived.Test.YtkhcneacjnpcnaaGPosixParses1
import Derived.Test.YtkhcneacjnpcnaaGPosixParses4
import Derived.Test.YtkhcneacjnpcnaaGPosixParses9
namespace Go.Proofs.Ytkhcneacjnpcnaa
open Go.RowKit
set_option linter.unusedVariables false
set_option linter.unusedSimpArgs false

/-! parts of a text -/
/-- A text parted at each byte c. -/
def spt (c : UInt8) : List UInt8 → List (List UInt8)
  | [] => [[]]
  | b :: l => if b = c then [] :: spt c l else match spt c l with | [] => [[b]] | x :: xs => (b :: x) :: xs
/-- What stands ahead of the first byte c. -/
def qb (c : UInt8) (l : List UInt8) : List UInt8 := l.takeWhile (· != c)
theorem spt_head (c : UInt8) : ∀ l, ∃ ps, spt c l = qb c l :: ps
  | [] => ⟨[], rfl⟩
  | b :: l => by
    obtain ⟨ps, h⟩ := spt_head c l
    by_cases e : b = c
    · subst e; exact ⟨spt b l, by rw [spt, if_pos rfl]; simp [qb]⟩
    · exact ⟨ps, by rw [spt, if_neg e, h]; simp [qb, List.takeWhile_cons, e]⟩
theorem spt_cut (c : UInt8) : ∀ {a : List UInt8} (r : List UInt8), (∀ b ∈ a, b ≠ c) → spt c (a ++ c :: r) = a :: spt c r
  | [], r, _ => by rw [List.nil_append, spt, if_pos rfl]
  | b :: a, r, h => by rw [List.cons_append, spt, if_neg (h b (by simp)), spt_cut c r (fun x hx => h x (by simp [hx]))]
theorem spt_last (c : UInt8) : ∀ {a : List UInt8}, (∀ b ∈ a, b ≠ c) → spt c a = [a]
  | [], _ => rfl
  | b :: a, h => by rw [spt, if_neg (h b (by simp)), spt_last c (fun x hx => h x (by simp [hx]))]
theorem qb_app (c : UInt8) {a : List UInt8} (r : List UInt8) (h : ∀ b ∈ a, b ≠ c) : qb c (a ++ r) = a ++ qb c r := by
  unfold qb; exact List.takeWhile_append_of_pos fun b hb => bne_iff_ne.2 (h b hb)
theorem qb_all {c : UInt8} {a : List UInt8} (h : ∀ b ∈ a, b ≠ c) : qb c a = a := by
  have := qb_app c [] h
  rw [List.append_nil] at this
  rw [this]; simp [qb]
theorem qb_stop (c : UInt8) (r : List UInt8) : qb c (c :: r) = [] := by simp [qb]
theorem qb_go {c x : UInt8} (r : List UInt8) (h : x ≠ c) : qb c (x :: r) = x :: qb c r := by simp [qb, List.takeWhile_cons, h]
theorem qb_pre (c : UInt8) : ∀ l : List UInt8, qb c l = l.take (qb c l).length
  | [] => rfl
  | b :: l => by
    by_cases e : b = c
    · subst e; rw [qb_stop]; rfl
    · rw [qb_go l e, List.length_cons, List.take_succ_cons, ← qb_pre c l]
theorem qb_len (c : UInt8) (l : List UInt8) : (qb c l).length ≤ l.length := by
  have h := congrArg List.length (qb_pre c l); rw [List.length_take] at h; omega

/-! figures -/
/-- A text of so many figures, and of nothing else. -/
def fg (i j : Nat) (a : List UInt8) : Prop := i ≤ a.length ∧ a.length ≤ j ∧ lead a = a.length
instance (i j : Nat) (a : List UInt8) : Decidable (fg i j a) := by unfold fg; infer_instance
theorem isd_ne {c : UInt8} (hc : isd c = false) {b : UInt8} (h : isd b = true) : b ≠ c := by rintro rfl; rw [hc] at h; cases h
theorem lead_ne {c : UInt8} (hc : isd c = false) {r : List UInt8} {k : Nat} (h : k ≤ lead r) : ∀ b ∈ r.take k, b ≠ c := fun b hb => isd_ne hc (lead_mem h b hb)
theorem fg_dec {i j : Nat} {a : List UInt8} (h : ∀ b ∈ a, isd b = true) (h1 : i ≤ a.length) (h2 : a.length ≤ j) : fg i j a := ⟨h1, h2, lead_all h⟩
theorem fg_isd {i j : Nat} {a : List UInt8} (h : fg i j a) : ∀ b ∈ a, isd b = true := by
  have := lead_mem (l := a) (k := a.length) (by rw [h.2.2]; exact Nat.le_refl _)
  rwa [List.take_of_length_le (Nat.le_refl _)] at this
theorem fg_take {r : List UInt8} {i j : Nat} (h : i ≤ lead r) (hij : i ≤ j) : fg i j (r.take (min (lead r) j)) := by
  have hl := lead_le r
  refine ⟨?_, ?_, ?_⟩
  · rw [List.length_take]; omega
  · rw [List.length_take]; omega
  · rw [lead_take, List.length_take]; omega
/-- How a text goes on behind its figures, and which parts it has then. -/
theorem nx {c : UInt8} (hc : isd c = false) {i j : Nat} (hi : 1 ≤ i) (hij : i ≤ j) (r : List UInt8) :
    (lead r < i ∧ ¬ fg i j (qb c r)) ∨
    (i ≤ lead r ∧ r.drop (min (lead r) j) = [] ∧ spt c r = [r.take (min (lead r) j)] ∧ qb c r = r ∧ r.take (min (lead r) j) = r ∧ fg i j (r.take (min (lead r) j))) ∨
    (i ≤ lead r ∧ (∃ t, r.drop (min (lead r) j) = c :: t ∧ spt c r = r.take (min (lead r) j) :: spt c t) ∧ qb c r = r.take (min (lead r) j) ∧ fg i j (r.take (min (lead r) j))) ∨
    (i ≤ lead r ∧ (∃ x t, r.drop (min (lead r) j) = x :: t ∧ x ≠ c) ∧ ¬ fg i j (qb c r)) := by
  have hl := lead_le r
  have hpre := qb_pre c r
  have hq := qb_len c r
  rcases Nat.lt_or_ge (lead r) i with h | h
  · refine .inl ⟨h, fun ⟨f1, f2, f3⟩ => ?_⟩
    rw [hpre, lead_take, ← hpre] at f3
    omega
  · have hm : ∀ b ∈ r.take (min (lead r) j), b ≠ c := lead_ne hc (by omega)
    have hf := fg_take h hij
    have e := List.take_append_drop (min (lead r) j) r
    cases hd : r.drop (min (lead r) j) with
    | nil =>
      rw [hd, List.append_nil] at e
      refine .inr (.inl ⟨h, rfl, ?_, ?_, e, hf⟩)
      · have := spt_last c hm
        rw [e] at this ⊢
        exact this
      · have := qb_all hm
        rw [e] at this
        exact this
    | cons x t =>
      rw [hd] at e
      by_cases hx : x = c
      · subst hx
        refine .inr (.inr (.inl ⟨h, ⟨t, rfl, ?_⟩, ?_, hf⟩))
        · have := spt_cut x t hm
          rw [e] at this
          exact this
        · have := qb_app x (x :: t) hm
          rw [e, qb_stop, List.append_nil] at this
          exact this
      · refine .inr (.inr (.inr ⟨h, ⟨x, t, rfl, hx⟩, fun ⟨f1, f2, f3⟩ => ?_⟩))
        have g := qb_app c (x :: t) hm
        rw [e, qb_go t hx] at g
        have gl := congrArg List.length g
        rw [List.length_append, List.length_cons, List.length_take] at gl
        rw [hpre, lead_take, ← hpre] at f3
        omega
theorem fg_big {r : List UInt8} {i j : Nat} (h : fg i j r) (hj : j ≤ 5) : dv r < 100000 := by
  have := dv_lt (fg_isd h)
  have c : 10 ^ r.length ≤ 10 ^ 5 := Nat.pow_le_pow_right (by decide) (by have := h.2.1; omega)
  omega

/-! the scanner's figures -/
theorem fg_yes {r : List UInt8} {i j : Nat} (h1 : 1 ≤ i) (h2 : i ≤ j) (h3 : j ≤ 5) (h : i ≤ lead r) (k : Nat) :
    fgE r 0 i j = 0 ∧ fgK k r 0 i j = k + min (lead r) j ∧ fgN r 0 i j = ((dv (r.take (min (lead r) j)) : Nat) : Int) := by
  have hR : tkR (i : Int) (j : Int) = false := by unfold tkR; simp; omega
  have hk : tkk r (j : Int) = min (lead r) j := by unfold tkk; simp
  have hd := fg_big (fg_take (i := i) (j := j) h h2) h3
  have e : tkE r i j mx = 0 := by
    unfold tkE; rw [hR, hk, if_neg (by decide), if_neg (by omega)]
    unfold vlE; rw [if_neg (by have := mx_is; omega)]
  refine ⟨?_, ?_, ?_⟩
  · unfold fgE; rw [if_pos rfl]; exact e
  · unfold fgK; rw [if_pos rfl]; unfold tkK; rw [if_pos e, hk]
  · unfold fgN; rw [if_pos rfl]; unfold tkN; rw [if_pos e, hk]
theorem fg_no {r : List UInt8} {i j : Nat} (h1 : 1 ≤ i) (h2 : i ≤ j) (h3 : j ≤ 5) (h : lead r < i) : fgE r 0 i j = 2 := by
  have hR : tkR (i : Int) (j : Int) = false := by unfold tkR; simp; omega
  have hk : tkk r (j : Int) = min (lead r) j := by unfold tkk; simp
  unfold fgE; rw [if_pos rfl]
  unfold tkE; rw [hR, hk, if_neg (by decide), if_pos (by omega)]
theorem fgE16_bad {r : List UInt8} {e a b : Int} (h : e ≠ 0) : fgE r e a b = e := by unfold fgE; rw [if_neg h]
theorem enE16_bad {l : List UInt8} {k : Nat} {e : Int} (h : e ≠ 0) : enE l k e = e := by unfold enE; rw [if_neg (fun c => h c.1)]
theorem enE16_nil {l : List UInt8} {k : Nat} (h : l.drop k = []) : enE l k 0 = 0 := by
  have : l.length ≤ k := List.drop_eq_nil_iff.1 h
  unfold enE; rw [if_neg (by omega)]
theorem enE16_more {l : List UInt8} {k : Nat} {x : UInt8} {t : List UInt8} (h : l.drop k = x :: t) : enE l k 0 = 2 := by
  have : k < l.length := by
    rcases Nat.lt_or_ge k l.length with c | c
    · exact c
    · rw [List.drop_eq_nil_of_le c] at h; cases h
  unfold enE; rw [if_pos ⟨rfl, this⟩]
theorem fgK16_le (l : List UInt8) {k : Nat} (e a b : Int) (h : k ≤ l.length) : fgK k (rs l k e) e a b ≤ l.length := by
  unfold fgK; split
  · have h1 := tkK_le (rs l k e) a b mx; have h2 := rs_le l k e; omega
  · exact h
theorem head16 {l : List UInt8} {k : Nat} {e : Int} {b : UInt8} (h : (rs l k e).head? = some b) : k + 1 ≤ l.length := by
  have := (rs_at (e := e) (by intro c; rw [c] at h; cases h)).2; omega
theorem fgN16_bd (r : List UInt8) (e : Int) {i j : Nat} (h1 : 1 ≤ i) (h2 : i ≤ j) (h3 : j ≤ 5) : 0 ≤ fgN r e i j ∧ fgN r e i j < 100000 := by
  by_cases he : e = 0
  · subst he
    rcases Nat.lt_or_ge (lead r) i with h | h
    · have hE := fg_no h1 h2 h3 h
      unfold fgN; rw [if_pos rfl]
      unfold fgE at hE; rw [if_pos rfl] at hE
      unfold tkN; rw [hE, if_neg (by decide)]; decide
    · rw [(fg_yes h1 h2 h3 h 0).2.2]
      have := fg_big (fg_take h h2) h3
      omega
  · unfold fgN; rw [if_neg he]; decide
theorem drop_add {l r : List UInt8} {k d : Nat} (h : l.drop k = r) : l.drop (k + d) = r.drop d := by rw [← h, List.drop_drop]
theorem rs16 {l r : List UInt8} {k : Nat} (h : l.drop k = r) : rs l k 0 = r := by rw [rs_zero]; exact h

/-! ### clock times -/
/-- Optional minutes, or seconds: are there any, the number, the place and the error behind them. -/
def oY (l : List UInt8) (k : Nat) (e : Int) : Bool := (rs l k e).head? == some 58
def oN (l : List UInt8) (k : Nat) (e : Int) : Int := if oY l k e = true then fgN (rs l (k + 1) e) e 2 2 else 0
def oK (l : List UInt8) (k : Nat) (e : Int) : Nat := if oY l k e = true then fgK (k + 1) (rs l (k + 1) e) e 2 2 else k
def oE (l : List UInt8) (k : Nat) (e : Int) : Int := if oY l k e = true then fgE (rs l (k + 1) e) e 2 2 else e
/-- The sign: is it a -, and the place behind it. -/
def cNg (l : List UInt8) (k : Nat) (e : Int) : Bool := (rs l k e).head? == some 45
def cK0 (l : List UInt8) (k : Nat) (e : Int) : Nat := if (rs l k e).head? = some 45 then k + 1 else if (rs l k e).head? = some 43 then k + 1 else k
/-- The hours. -/
def cH (l : List UInt8) (k : Nat) (e : Int) : Int := fgN (rs l (cK0 l k e) e) e 1 3
def cK1 (l : List UInt8) (k : Nat) (e : Int) : Nat := fgK (cK0 l k e) (rs l (cK0 l k e) e) e 1 3
def cE1 (l : List UInt8) (k : Nat) (e : Int) : Int := fgE (rs l (cK0 l k e) e) e 1 3
/-- The minutes, the seconds. -/
def cM (l : List UInt8) (k : Nat) (e : Int) : Int := oN l (cK1 l k e) (cE1 l k e)
def cK2 (l : List UInt8) (k : Nat) (e : Int) : Nat := oK l (cK1 l k e) (cE1 l k e)
def cE2 (l : List UInt8) (k : Nat) (e : Int) : Int := oE l (cK1 l k e) (cE1 l k e)
def cS (l : List UInt8) (k : Nat) (e : Int) : Int := oN l (cK2 l k e) (cE2 l k e)
def cK3 (l : List UInt8) (k : Nat) (e : Int) : Nat := oK l (cK2 l k e) (cE2 l k e)
def cE3 (l : List UInt8) (k : Nat) (e : Int) : Int := oE l (cK2 l k e) (cE2 l k e)
theorem oK_le (l : List UInt8) {k : Nat} (e : Int) (h : k ≤ l.length) : oK l k e ≤ l.length := by
  unfold oK; split
  · next c => exact fgK16_le l e 2 2 (head16 (beq_iff_eq.1 c))
  · exact h
theorem cK0_le (l : List UInt8) {k : Nat} (e : Int) (h : k ≤ l.length) : cK0 l k e ≤ l.length := by
  unfold cK0; split
  · next c => exact head16 c
  · split
    · next c => exact head16 c
    · exact h
theorem cK1_le (l : List UInt8) {k : Nat} (e : Int) (h : k ≤ l.length) : cK1 l k e ≤ l.length := fgK16_le l e 1 3 (cK0_le l e h)
theorem cK2_le (l : List UInt8) {k : Nat} (e : Int) (h : k ≤ l.length) : cK2 l k e ≤ l.length := oK_le l _ (cK1_le l e h)
theorem cK3_le (l : List UInt8) {k : Nat} (e : Int) (h : k ≤ l.length) : cK3 l k e ≤ l.length := oK_le l _ (cK2_le l e h)
theorem oN_bd (l : List UInt8) (k : Nat) (e : Int) : 0 ≤ oN l k e ∧ oN l k e < 100000 := by
  unfold oN; split
  · exact fgN16_bd (i := 2) (j := 2) _ e (by omega) (by omega) (by omega)
  · decide
theorem cH_bd (l : List UInt8) (k : Nat) (e : Int) : 0 ≤ cH l k e ∧ cH l k e < 100000 := fgN16_bd (i := 1) (j := 3) _ e (by omega) (by omega) (by omega)
theorem cM_bd (l : List UInt8) (k : Nat) (e : Int) : 0 ≤ cM l k e ∧ cM l k e < 100000 := oN_bd l _ _
theorem cS_bd (l : List UInt8) (k : Nat) (e : Int) : 0 ≤ cS l k e ∧ cS l k e < 100000 := oN_bd l _ _
theorem oE_bad (l : List UInt8) (k : Nat) {e : Int} (h : e ≠ 0) : oE l k e = e := by
  unfold oE; split
  · exact fgE16_bad h
  · rfl
/-- A text behind its sign. -/
def cb (r : List UInt8) : List UInt8 := if r.head? = some 45 ∨ r.head? = some 43 then r.drop 1 else r
/-- A text as a clock time: its sign, hours, minutes, seconds; nothing if it has no such form. -/
def ckP (r : List UInt8) : Option (Bool × Int × Int × Int) :=
  match spt 58 (cb r) with
  | [a] => if fg 1 3 a then some (r.head? == some 45, ((dv a : Nat) : Int), 0, 0) else none
  | [a, b] => if fg 1 3 a ∧ fg 2 2 b then some (r.head? == some 45, ((dv a : Nat) : Int), ((dv b : Nat) : Int), 0) else none
  | [a, b, c] => if fg 1 3 a ∧ fg 2 2 b ∧ fg 2 2 c then some (r.head? == some 45, ((dv a : Nat) : Int), ((dv b : Nat) : Int), ((dv c : Nat) : Int)) else none
  | _ => none
theorem ckP_no1 {r p : List UInt8} {ps : List (List UInt8)} (h : spt 58 (cb r) = p :: ps) (hp : ¬ fg 1 3 p) : ckP r = none := by
  unfold ckP; rw [h]
  match ps with
  | [] => exact if_neg hp
  | [b] => exact if_neg fun c => hp c.1
  | [b, c] => exact if_neg fun c => hp c.1
  | _ :: _ :: _ :: _ => rfl
theorem ckP_no2 {r a p : List UInt8} {ps : List (List UInt8)} (h : spt 58 (cb r) = a :: p :: ps) (hp : ¬ fg 2 2 p) : ckP r = none := by
  unfold ckP; rw [h]
  match ps with
  | [] => exact if_neg fun c => hp c.2
  | [b] => exact if_neg fun c => hp c.2.1
  | _ :: _ :: _ => rfl
theorem ckP_no3 {r a b p : List UInt8} {ps : List (List UInt8)} (h : spt 58 (cb r) = a :: b :: p :: ps) (hp : ps = [] → ¬ fg 2 2 p) : ckP r = none := by
  unfold ckP; rw [h]
  match ps with
  | [] => exact if_neg fun c => hp rfl c.2.2
  | _ :: _ => rfl

theorem cK0_is (l : List UInt8) (k : Nat) : l.drop (cK0 l k 0) = cb (l.drop k) := by
  unfold cK0 cb
  rw [rs_zero]
  by_cases c : (l.drop k).head? = some 45
  · rw [if_pos c, if_pos (Or.inl c), List.drop_drop]
  · by_cases d : (l.drop k).head? = some 43
    · rw [if_neg c, if_pos d, if_pos (Or.inr d), List.drop_drop]
    · rw [if_neg c, if_neg d, if_neg (by rintro (h | h) <;> contradiction)]
/-- Nothing more, or what is no colon. -/
theorem o_no {l : List UInt8} {k : Nat} (h : (l.drop k).head? ≠ some 58) : oN l k 0 = 0 ∧ oK l k 0 = k ∧ oE l k 0 = 0 := by
  have : oY l k 0 = false := by unfold oY; rw [rs_zero]; simpa using h
  unfold oN oK oE; rw [this]; exact ⟨rfl, rfl, rfl⟩
theorem o_yes {l t : List UInt8} {k : Nat} (h : l.drop k = 58 :: t) : oN l k 0 = fgN t 0 2 2 ∧ oK l k 0 = fgK (k + 1) t 0 2 2 ∧ oE l k 0 = fgE t 0 2 2 ∧ l.drop (k + 1) = t := by
  have h1 : oY l k 0 = true := by unfold oY; rw [rs_zero, h]; rfl
  have h2 : l.drop (k + 1) = t := by rw [drop_add h]; rfl
  unfold oN oK oE; rw [h1, rs16 h2]; exact ⟨rfl, rfl, rfl, h2⟩
theorem head_ne {x c : UInt8} {t : List UInt8} (h : x ≠ c) : (x :: t).head? ≠ some c := by simpa using h
theorem isd_58 : isd 58 = false := by decide

/-- What the scanner makes of a clock time that ends its text. -/
theorem ck_is (l : List UInt8) (k : Nat) :
    (ckP (l.drop k) = none ∧ enE l (cK3 l k 0) (cE3 l k 0) = 2) ∨ (ckP (l.drop k) = some (cNg l k 0, cH l k 0, cM l k 0, cS l k 0) ∧ enE l (cK3 l k 0) (cE3 l k 0) = 0) := by
  have e0 := cK0_is l k
  obtain ⟨r, hr⟩ : ∃ r, r = cb (l.drop k) := ⟨_, rfl⟩
  have hN : cNg l k 0 = ((l.drop k).head? == some 45) := by unfold cNg; rw [rs_zero]
  rw [← hr] at e0
  have z0 : rs l (cK0 l k 0) 0 = r := rs16 e0
  have bad1 : ∀ {e : Int}, e = 2 → cE1 l k 0 = e → enE l (cK3 l k 0) (cE3 l k 0) = 2 := by
    rintro e rfl h
    have h2 : cE2 l k 0 = 2 := by unfold cE2; rw [h]; exact oE_bad _ _ (by decide)
    have h3 : cE3 l k 0 = 2 := by unfold cE3; rw [h2]; exact oE_bad _ _ (by decide)
    rw [h3]; exact enE16_bad (by decide)
  have bad2 : cE2 l k 0 = 2 → enE l (cK3 l k 0) (cE3 l k 0) = 2 := by
    intro h2
    have h3 : cE3 l k 0 = 2 := by unfold cE3; rw [h2]; exact oE_bad _ _ (by decide)
    rw [h3]; exact enE16_bad (by decide)
  obtain ⟨ps0, hp0⟩ := spt_head 58 r
  rcases nx isd_58 (i := 1) (j := 3) (by omega) (by omega) r with ⟨h, hp⟩ | ⟨h, hd, hs, -, -, hf⟩ | ⟨h, ⟨t, hd, hs⟩, -, hf⟩ | ⟨h, ⟨x, t, hd, hx⟩, hp⟩
  · refine .inl ⟨ckP_no1 (by rw [← hr]; exact hp0) hp, bad1 rfl ?_⟩
    unfold cE1; rw [z0]; exact fg_no (i := 1) (j := 3) (by omega) (by omega) (by omega) h
  · obtain ⟨f1, f2, f3⟩ := fg_yes (i := 1) (j := 3) (by omega) (by omega) (by omega) h (cK0 l k 0)
    have g1 : cE1 l k 0 = 0 := by unfold cE1; rw [z0]; exact f1
    have g2 : cK1 l k 0 = cK0 l k 0 + min (lead r) 3 := by unfold cK1; rw [z0]; exact f2
    have g3 : cH l k 0 = ((dv (r.take (min (lead r) 3)) : Nat) : Int) := by unfold cH; rw [z0]; exact f3
    have d1 : l.drop (cK1 l k 0) = [] := by rw [g2, drop_add e0, hd]
    obtain ⟨n1, n2, n3⟩ := o_no (l := l) (k := cK1 l k 0) (by rw [d1]; simp)
    have m1 : cM l k 0 = 0 := by unfold cM; rw [g1]; exact n1
    have m2 : cK2 l k 0 = cK1 l k 0 := by unfold cK2; rw [g1]; exact n2
    have m3 : cE2 l k 0 = 0 := by unfold cE2; rw [g1]; exact n3
    have s1 : cS l k 0 = 0 := by unfold cS; rw [m2, m3]; exact n1
    have s2 : cK3 l k 0 = cK1 l k 0 := by unfold cK3; rw [m2, m3]; exact n2
    have s3 : cE3 l k 0 = 0 := by unfold cE3; rw [m2, m3]; exact n3
    refine .inr ⟨?_, by rw [s2, s3]; exact enE16_nil d1⟩
    unfold ckP
    rw [← hr, hs, hN, g3, m1, s1]
    exact if_pos hf
  · obtain ⟨f1, f2, f3⟩ := fg_yes (i := 1) (j := 3) (by omega) (by omega) (by omega) h (cK0 l k 0)
    have g1 : cE1 l k 0 = 0 := by unfold cE1; rw [z0]; exact f1
    have g2 : cK1 l k 0 = cK0 l k 0 + min (lead r) 3 := by unfold cK1; rw [z0]; exact f2
    have g3 : cH l k 0 = ((dv (r.take (min (lead r) 3)) : Nat) : Int) := by unfold cH; rw [z0]; exact f3
    have d1 : l.drop (cK1 l k 0) = 58 :: t := by rw [g2, drop_add e0, hd]
    obtain ⟨n1, n2, n3, n4⟩ := o_yes d1
    have m1 : cM l k 0 = fgN t 0 2 2 := by unfold cM; rw [g1]; exact n1
    have m2 : cK2 l k 0 = fgK (cK1 l k 0 + 1) t 0 2 2 := by unfold cK2; rw [g1]; exact n2
    have m3 : cE2 l k 0 = fgE t 0 2 2 := by unfold cE2; rw [g1]; exact n3
    obtain ⟨ps1, hp1⟩ := spt_head 58 t
    rcases nx isd_58 (i := 2) (j := 2) (by omega) (by omega) t with ⟨h', hp'⟩ | ⟨h', hd', hs', -, -, hf'⟩ | ⟨h', ⟨t', hd', hs'⟩, -, hf'⟩ | ⟨h', ⟨x', t', hd', hx'⟩, hp'⟩
    · refine .inl ⟨ckP_no2 (by rw [← hr, hs, hp1]) hp', bad2 ?_⟩
      rw [m3]; exact fg_no (i := 2) (j := 2) (by omega) (by omega) (by omega) h'
    · obtain ⟨f1', f2', f3'⟩ := fg_yes (i := 2) (j := 2) (by omega) (by omega) (by omega) h' (cK1 l k 0 + 1)
      have y1 : cM l k 0 = ((dv (t.take (min (lead t) 2)) : Nat) : Int) := m1.trans f3'
      have y2 : cK2 l k 0 = cK1 l k 0 + 1 + min (lead t) 2 := m2.trans f2'
      have y3 : cE2 l k 0 = 0 := m3.trans f1'
      have d2 : l.drop (cK2 l k 0) = [] := by rw [y2, drop_add n4, hd']
      obtain ⟨p1, p2, p3⟩ := o_no (l := l) (k := cK2 l k 0) (by rw [d2]; simp)
      have s1 : cS l k 0 = 0 := by unfold cS; rw [y3]; exact p1
      have s2 : cK3 l k 0 = cK2 l k 0 := by unfold cK3; rw [y3]; exact p2
      have s3 : cE3 l k 0 = 0 := by unfold cE3; rw [y3]; exact p3
      refine .inr ⟨?_, by rw [s2, s3]; exact enE16_nil d2⟩
      unfold ckP
      rw [← hr, hs, hs', hN, g3, y1, s1]
      exact if_pos ⟨hf, hf'⟩
    · obtain ⟨f1', f2', f3'⟩ := fg_yes (i := 2) (j := 2) (by omega) (by omega) (by omega) h' (cK1 l k 0 + 1)
      have y1 : cM l k 0 = ((dv (t.take (min (lead t) 2)) : Nat) : Int) := m1.trans f3'
      have y2 : cK2 l k 0 = cK1 l k 0 + 1 + min (lead t) 2 := m2.trans f2'
      have y3 : cE2 l k 0 = 0 := m3.trans f1'
      have d2 : l.drop (cK2 l k 0) = 58 :: t' := by rw [y2, drop_add n4, hd']
      obtain ⟨p1, p2, p3, p4⟩ := o_yes d2
      have s1 : cS l k 0 = fgN t' 0 2 2 := by unfold cS; rw [y3]; exact p1
      have s2 : cK3 l k 0 = fgK (cK2 l k 0 + 1) t' 0 2 2 := by unfold cK3; rw [y3]; exact p2
      have s3 : cE3 l k 0 = fgE t' 0 2 2 := by unfold cE3; rw [y3]; exact p3
      obtain ⟨ps2, hp2⟩ := spt_head 58 t'
      rcases nx isd_58 (i := 2) (j := 2) (by omega) (by omega) t' with ⟨h2, hq⟩ | ⟨h2, hd2, hs2, -, -, hf2⟩ | ⟨h2, ⟨t2, hd2, hs2⟩, -, hf2⟩ | ⟨h2, ⟨x2, t2, hd2, hx2⟩, hq⟩
      · refine .inl ⟨ckP_no3 (by rw [← hr, hs, hs', hp2]) (fun _ => hq), ?_⟩
        have u3 : cE3 l k 0 = 2 := s3.trans (fg_no (i := 2) (j := 2) (by omega) (by omega) (by omega) h2)
        rw [u3]
        exact enE16_bad (by decide)
      · obtain ⟨f1'', f2'', f3''⟩ := fg_yes (i := 2) (j := 2) (by omega) (by omega) (by omega) h2 (cK2 l k 0 + 1)
        have u1 : cS l k 0 = ((dv (t'.take (min (lead t') 2)) : Nat) : Int) := s1.trans f3''
        have u2 : cK3 l k 0 = cK2 l k 0 + 1 + min (lead t') 2 := s2.trans f2''
        have u3 : cE3 l k 0 = 0 := s3.trans f1''
        refine .inr ⟨?_, by rw [u2, u3]; exact enE16_nil (by rw [drop_add p4, hd2])⟩
        unfold ckP
        rw [← hr, hs, hs', hs2, hN, g3, y1, u1]
        exact if_pos ⟨hf, hf', hf2⟩
      · obtain ⟨f1'', f2'', f3''⟩ := fg_yes (i := 2) (j := 2) (by omega) (by omega) (by omega) h2 (cK2 l k 0 + 1)
        have u2 : cK3 l k 0 = cK2 l k 0 + 1 + min (lead t') 2 := s2.trans f2''
        have u3 : cE3 l k 0 = 0 := s3.trans f1''
        obtain ⟨ps3, hp3⟩ := spt_head 58 t2
        refine .inl ⟨ckP_no3 (by rw [← hr, hs, hs', hs2, hp3]) (fun c => by cases c), by rw [u2, u3]; exact enE16_more (by rw [drop_add p4, hd2])⟩
      · obtain ⟨f1'', f2'', f3''⟩ := fg_yes (i := 2) (j := 2) (by omega) (by omega) (by omega) h2 (cK2 l k 0 + 1)
        have u2 : cK3 l k 0 = cK2 l k 0 + 1 + min (lead t') 2 := s2.trans f2''
        have u3 : cE3 l k 0 = 0 := s3.trans f1''
        refine .inl ⟨ckP_no3 (by rw [← hr, hs, hs', hp2]) (fun _ => hq), by rw [u2, u3]; exact enE16_more (by rw [drop_add p4, hd2])⟩
    · obtain ⟨f1', f2', f3'⟩ := fg_yes (i := 2) (j := 2) (by omega) (by omega) (by omega) h' (cK1 l k 0 + 1)
      have y2 : cK2 l k 0 = cK1 l k 0 + 1 + min (lead t) 2 := m2.trans f2'
      have y3 : cE2 l k 0 = 0 := m3.trans f1'
      have d2 : l.drop (cK2 l k 0) = x' :: t' := by rw [y2, drop_add n4, hd']
      obtain ⟨p1, p2, p3⟩ := o_no (l := l) (k := cK2 l k 0) (by rw [d2]; exact head_ne hx')
      have s2 : cK3 l k 0 = cK2 l k 0 := by unfold cK3; rw [y3]; exact p2
      have s3 : cE3 l k 0 = 0 := by unfold cE3; rw [y3]; exact p3
      exact .inl ⟨ckP_no2 (by rw [← hr, hs, hp1]) hp', by rw [s2, s3]; exact enE16_more d2⟩
  · obtain ⟨f1, f2, f3⟩ := fg_yes (i := 1) (j := 3) (by omega) (by omega) (by omega) h (cK0 l k 0)
    have g1 : cE1 l k 0 = 0 := by unfold cE1; rw [z0]; exact f1
    have g2 : cK1 l k 0 = cK0 l k 0 + min (lead r) 3 := by unfold cK1; rw [z0]; exact f2
    have d1 : l.drop (cK1 l k 0) = x :: t := by rw [g2, drop_add e0, hd]
    obtain ⟨n1, n2, n3⟩ := o_no (l := l) (k := cK1 l k 0) (by rw [d1]; exact head_ne hx)
    have m2 : cK2 l k 0 = cK1 l k 0 := by unfold cK2; rw [g1]; exact n2
    have m3 : cE2 l k 0 = 0 := by unfold cE2; rw [g1]; exact n3
    have s2 : cK3 l k 0 = cK1 l k 0 := by unfold cK3; rw [m2, m3]; exact n2
    have s3 : cE3 l k 0 = 0 := by unfold cE3; rw [m2, m3]; exact n3
    exact .inl ⟨ckP_no1 (by rw [← hr]; exact hp0) hp, by rw [s2, s3]; exact enE16_more d1⟩
end Go.Proofs.Ytkhcneacjnpcnaa
