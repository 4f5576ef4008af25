/- Merged: DayM, LeapM. -/
import Derived.Test.YtdonicaiimeleaaGreatDoorGListParses1
namespace Go.Proofs.YtdonicaiimeleaaGreatDoor
open Go.RowKit
set_option linter.unusedVariables false

/-- Is it a leap year? -/
def lp (y : Int) : Bool := decide (y % 4 = 0 ∧ (y % 100 ≠ 0 ∨ y % 400 = 0))
/-- How many days a year has. -/
def yd (y : Int) : Int := if lp y = true then 366 else 365
/-- The number of a year's first day. -/
def st (y : Int) : Int := 365 * (y - 1970) + (y - 1) / 4 - (y - 1) / 100 + (y - 1) / 400 - 477
/-- The ends of the months of a year that isn't a leap year. -/
def endsL : List Int := [0, 31, 59, 90, 120, 151, 181, 212, 243, 273, 304, 334, 365]
def e0 (m : Int) : Int := endsL.getD m.toNat 0
/-- How many days of a year are over at the end of a month. -/
def em (y m : Int) : Int := if 2 ≤ m ∧ lp y = true then e0 m + 1 else e0 m
/-- How many days a month has. -/
def ml (y m : Int) : Int := em y m - em y (m - 1)
/-- Is it a year? -/
def isy (y : Int) : Prop := -9999 ≤ y ∧ y ≤ 9999
instance (y : Int) : Decidable (isy y) := by unfold isy; infer_instance
/-- Weekdays. -/
def wd (n : Int) : Int := (n + 3) % 7 + 1

/-- A date of a number. -/
def Dt (n y m d : Int) : Prop := isy y ∧ 1 ≤ m ∧ m ≤ 12 ∧ 1 ≤ d ∧ d ≤ ml y m ∧ n = st y + em y (m - 1) + d - 1

/-! leap years -/
theorem lp_yes {y : Int} : lp y = true ↔ (y % 4 = 0 ∧ (y % 100 ≠ 0 ∨ y % 400 = 0)) := by unfold lp; simp
theorem lp_no {y : Int} : lp y = false ↔ ¬ (y % 4 = 0 ∧ (y % 100 ≠ 0 ∨ y % 400 = 0)) := by unfold lp; simp
theorem tm_zero (y b : Int) : (y.tmod b == 0) = decide (y % b = 0) := by
  by_cases h : y % b = 0
  · rw [decide_eq_true h]; exact beq_iff_eq.2 (Int.tmod_eq_zero_of_dvd (Int.dvd_of_emod_eq_zero h))
  · rw [decide_eq_false h]; exact beq_eq_false_iff_ne.2 fun e => h (Int.emod_eq_zero_of_dvd (Int.dvd_of_tmod_eq_zero e))

/-! years -/
theorem quarter (z : Int) (b : Int) (hb : 0 < b) : (z + 1) / b - z / b = if (z + 1) % b = 0 then 1 else 0 := by
  have h1 := Int.emod_add_mul_ediv z b
  have h2 := Int.emod_add_mul_ediv (z + 1) b
  have p1 := Int.emod_nonneg z (by omega : b ≠ 0)
  have p2 := Int.emod_lt_of_pos z hb
  have p3 := Int.emod_nonneg (z + 1) (by omega : b ≠ 0)
  have p4 := Int.emod_lt_of_pos (z + 1) hb
  generalize hq : z / b = q at *
  generalize hq2 : (z + 1) / b = q2 at *
  have e : b * (q2 - q) = 1 + z % b - (z + 1) % b := by rw [Int.mul_sub]; omega
  split
  · next h =>
    rw [h] at e
    have hd : q2 - q = 1 := by
      have l1 : 0 < b * (q2 - q) := by omega
      have l2 : b * (q2 - q) < b * 2 := by omega
      have g1 : 0 < q2 - q := by
        rcases Int.lt_or_le 0 (q2 - q) with g | g
        · exact g
        · have := Int.mul_le_mul_of_nonneg_left g (by omega : (0 : Int) ≤ b); omega
      have g2 : q2 - q < 2 := Int.lt_of_mul_lt_mul_left l2 (by omega)
      omega
    exact hd
  · next h =>
    have l1 : b * (q2 - q) < b * 1 := by omega
    have l2 : b * (-1) < b * (q2 - q) := by omega
    have g1 := Int.lt_of_mul_lt_mul_left l1 (by omega)
    have g2 := Int.lt_of_mul_lt_mul_left l2 (by omega)
    omega
theorem st_succ (y : Int) : st (y + 1) = st y + yd y := by
  unfold st yd
  have h4 := quarter (y - 1) 4 (by omega)
  have h100 := quarter (y - 1) 100 (by omega)
  have h400 := quarter (y - 1) 400 (by omega)
  rw [show y - 1 + 1 = y by omega] at h4 h100 h400
  rw [show y + 1 - 1 = y by omega]
  cases hl : lp y with
  | true =>
    obtain ⟨a, b⟩ := lp_yes.1 hl
    rw [if_pos a] at h4
    rw [if_pos rfl]
    by_cases c : y % 400 = 0
    · rw [if_pos c] at h400; rw [if_pos (by omega)] at h100; omega
    · rw [if_neg c] at h400; rw [if_neg (by omega)] at h100; omega
  | false =>
    have a := lp_no.1 hl
    rw [if_neg (by decide)]
    by_cases b : y % 4 = 0
    · have c : y % 100 = 0 := by omega
      have d : ¬ y % 400 = 0 := by omega
      rw [if_pos b] at h4; rw [if_pos c] at h100; rw [if_neg d] at h400; omega
    · rw [if_neg b] at h4; rw [if_neg (by omega)] at h100; rw [if_neg (by omega)] at h400; omega
theorem st_cycle (y : Int) : st (y + 400) = st y + 146097 := by unfold st; omega
theorem yd_bd (y : Int) : 365 ≤ yd y ∧ yd y ≤ 366 := by unfold yd; split <;> omega
theorem st_1970 : st 1970 = 0 := by decide
theorem st_first : st (-9999) = -4371587 := by decide
theorem st_end : st 10000 = 2932897 := by decide
theorem st_add (y : Int) : ∀ k : Nat, st y + 365 * k ≤ st (y + k) ∧ st (y + k) ≤ st y + 366 * k
  | 0 => by simp
  | k + 1 => by
    have ih := st_add y k; have h := st_succ (y + k); have b := yd_bd (y + k)
    rw [show y + ((k + 1 : Nat) : Int) = y + k + 1 by omega]
    omega
theorem st_mono {a b : Int} (h : a ≤ b) : st a ≤ st b := by
  have := st_add a (b - a).toNat
  rw [show a + ((b - a).toNat : Int) = b by omega] at this
  omega
theorem st_bd {y : Int} (h : -30000 ≤ y) (h' : y ≤ 30000) : -20000000 ≤ st y ∧ st y ≤ 20000000 := by unfold st; omega
theorem st_in {y : Int} (h : isy y) : -4371587 ≤ st y ∧ st y + yd y ≤ 2932897 := by
  have h1 := st_mono h.1; have h2 := st_mono (show y + 1 ≤ 10000 by have := h.2; omega)
  rw [st_first] at h1; rw [st_end, st_succ] at h2
  exact ⟨h1, h2⟩

/-! months -/
theorem twelve {m : Int} (h : 1 ≤ m) (h' : m ≤ 12) : m = 1 ∨ m = 2 ∨ m = 3 ∨ m = 4 ∨ m = 5 ∨ m = 6 ∨ m = 7 ∨ m = 8 ∨ m = 9 ∨ m = 10 ∨ m = 11 ∨ m = 12 := by omega
theorem em_zero (y : Int) : em y 0 = 0 := rfl
theorem em_yd (y : Int) : em y 12 = yd y := by unfold em yd; cases lp y <;> rfl
/-- A month's days by name. -/
theorem ml_is (y : Int) {m : Int} (h : 1 ≤ m) (h' : m ≤ 12) : ml y m = if m = 2 ∧ lp y = true then 29 else [31, 28, 31, 30, 31, 30, 31, 31, 30, 31, 30, 31].getD (m - 1).toNat 0 := by
  unfold ml em
  cases lp y <;> (rcases twelve h h' with rfl | rfl | rfl | rfl | rfl | rfl | rfl | rfl | rfl | rfl | rfl | rfl <;> rfl)
theorem ml_bd (y : Int) {m : Int} (h : 1 ≤ m) (h' : m ≤ 12) : 28 ≤ ml y m ∧ ml y m ≤ 31 := by
  unfold ml em
  cases lp y <;> (rcases twelve h h' with rfl | rfl | rfl | rfl | rfl | rfl | rfl | rfl | rfl | rfl | rfl | rfl <;> decide)
theorem em_bd (y : Int) {m : Int} (h : 0 ≤ m) (h' : m ≤ 12) : 0 ≤ em y m ∧ em y m ≤ 366 := by
  unfold em
  rcases (by omega : m = 0 ∨ 1 ≤ m) with rfl | h1
  · cases lp y <;> decide
  · cases lp y <;> (rcases twelve h1 h' with rfl | rfl | rfl | rfl | rfl | rfl | rfl | rfl | rfl | rfl | rfl | rfl <;> decide)
theorem em_succ (y m : Int) : em y m = em y (m - 1) + ml y m := by unfold ml; omega
theorem em_add (y : Int) {a : Int} (ha : 0 ≤ a) : ∀ k : Nat, a + k ≤ 12 → em y a ≤ em y (a + k)
  | 0, _ => by simp
  | k + 1, h => by
    have ih := em_add y ha k (by omega)
    have e := em_succ y (a + (k + 1 : Nat))
    have b := ml_bd y (m := a + (k + 1 : Nat)) (by omega) (by omega)
    rw [show a + ((k + 1 : Nat) : Int) - 1 = a + k by omega] at e
    omega
theorem em_mono (y : Int) {a b : Int} (ha : 0 ≤ a) (h : a ≤ b) (hb : b ≤ 12) : em y a ≤ em y b := by
  have := em_add y ha (b - a).toNat (by omega)
  rwa [show a + ((b - a).toNat : Int) = b by omega] at this
theorem em_le (y : Int) {m : Int} (h : 0 ≤ m) (h' : m ≤ 12) : em y m ≤ yd y := by have := em_mono y h h' (by omega); rwa [em_yd] at this

/-! dates -/
theorem find_step (f : Int → Int) (a n : Int) : ∀ k : Nat, f a ≤ n → n < f (a + k) → ∃ y, a ≤ y ∧ y < a + k ∧ f y ≤ n ∧ n < f (y + 1)
  | 0, h, h' => by simp at h'; omega
  | k + 1, h, h' => by
    by_cases c : n < f (a + k)
    · obtain ⟨y, p, q, r⟩ := find_step f a n k h c
      exact ⟨y, p, by omega, r⟩
    · exact ⟨a + k, by omega, by omega, by omega, by rw [show a + (k : Int) + 1 = a + ((k + 1 : Nat) : Int) by omega]; exact h'⟩
theorem dt_some {n : Int} (h : -4371587 ≤ n) (h' : n ≤ 2932896) : ∃ y m d, Dt n y m d := by
  obtain ⟨y, p, q, r, s⟩ := find_step st (-9999) n 19999 (by rw [st_first]; exact h) (by rw [show (-9999 : Int) + (19999 : Nat) = 10000 by omega, st_end]; omega)
  rw [st_succ] at s
  obtain ⟨m, p', q', r', s'⟩ := find_step (em y) 0 (n - st y) 12 (by rw [em_zero]; omega) (by rw [show (0 : Int) + (12 : Nat) = 12 by omega, em_yd]; omega)
  have e := em_succ y (m + 1)
  rw [show m + 1 - 1 = m by omega] at e
  exact ⟨y, m + 1, n - st y - em y m + 1, ⟨by omega, by omega⟩, by omega, by omega, by omega, by omega, by rw [show m + 1 - 1 = m by omega]; omega⟩
theorem Dt.ends {n y m d : Int} (h : Dt n y m d) : st y ≤ n ∧ n < st (y + 1) ∧ em y (m - 1) ≤ n - st y ∧ n - st y < em y m := by
  obtain ⟨hy, m1, m2, d1, d2, rfl⟩ := h
  have e := em_succ y m; have b := em_bd y (m := m - 1) (by omega) (by omega); have c := em_le y (m := m) (by omega) m2
  rw [st_succ]
  omega
theorem Dt.range {n y m d : Int} (h : Dt n y m d) : -4371587 ≤ n ∧ n ≤ 2932896 := by
  have e := h.ends; have b := st_in h.1
  rw [st_succ] at e
  omega
theorem Dt.one {n y m d y' m' d' : Int} (h : Dt n y m d) (h' : Dt n y' m' d') : y = y' ∧ m = m' ∧ d = d' := by
  have e := h.ends; have e' := h'.ends
  have hy : y = y' := by
    rcases (by omega : y < y' ∨ y' < y ∨ y = y') with g | g | g
    · have := st_mono (show y + 1 ≤ y' by omega); omega
    · have := st_mono (show y' + 1 ≤ y by omega); omega
    · exact g
  subst hy
  have hm : m = m' := by
    obtain ⟨_, m1, m2, _⟩ := h; obtain ⟨_, m1', m2', _⟩ := h'
    rcases (by omega : m < m' ∨ m' < m ∨ m = m') with g | g | g
    · have := em_mono y (a := m) (b := m' - 1) (by omega) (by omega) (by omega); omega
    · have := em_mono y (a := m') (b := m - 1) (by omega) (by omega) (by omega); omega
    · exact g
  subst hm
  have a := h.2.2.2.2.2; have b := h'.2.2.2.2.2
  exact ⟨rfl, rfl, by omega⟩
end Go.Proofs.YtdonicaiimeleaaGreatDoor

namespace Go.Proofs.YtdonicaiimeleaaGreatDoor
open Go.RowKit
set_option linter.unusedVariables false

/-- A row: a day, and the offset from it on. -/
structure Rw where
  d : Int
  o : Int
def rd (L : List Rw) (j : Nat) : Int := (L.getD j ⟨0, 0⟩).d
def ro (L : List Rw) (j : Nat) : Int := (L.getD j ⟨0, 0⟩).o
/-- All its numbers fit. -/
def Fw (L : List Rw) : Prop := ∀ j, fits (rd L j) ∧ fits (ro L j)
theorem Fw.d {L : List Rw} (h : Fw L) (j : Nat) : -9223372036854775808 ≤ rd L j ∧ rd L j ≤ 9223372036854775807 := (h j).1
theorem Fw.o {L : List Rw} (h : Fw L) (j : Nat) : -9223372036854775808 ≤ ro L j ∧ ro L j ≤ 9223372036854775807 := (h j).2
theorem rd_drop (L : List Rw) (k j : Nat) : rd (L.drop k) j = rd L (k + j) := by unfold rd; simp [List.getD]
theorem ro_drop (L : List Rw) (k j : Nat) : ro (L.drop k) j = ro L (k + j) := by unfold ro; simp [List.getD]
theorem rw_ext {L M : List Rw} (h : L.length = M.length) (hj : ∀ j, j < L.length → rd L j = rd M j ∧ ro L j = ro M j) : L = M := by
  refine List.ext_getElem h fun i h1 h2 => ?_
  have := hj i h1
  unfold rd ro at this
  simp only [List.getD, List.getElem?_eq_getElem h1, List.getElem?_eq_getElem h2, Option.getD_some] at this
  cases e : L[i]; cases e' : M[i]
  rw [e, e'] at this
  obtain ⟨a, b⟩ := this
  subst a; subst b; rfl
/-- Its cells, one behind the other. -/
def cw (L : List Rw) : List Value := L.flatMap fun r => [.int .i64 r.d, .int .i64 r.o]
theorem cw_len (L : List Rw) : (cw L).length = L.length * 2 := by
  induction L with
  | nil => rfl
  | cons a l ih => simp [cw, List.flatMap_cons] at ih ⊢; omega
theorem cw_append (a b : List Rw) : cw (a ++ b) = cw a ++ cw b := by simp [cw]
theorem cw_at (L : List Rw) : ∀ j, j < L.length → (cw L)[j * 2]? = some (.int .i64 (rd L j)) ∧ (cw L)[j * 2 + 1]? = some (.int .i64 (ro L j)) := by
  induction L with
  | nil => intro j h; simp at h
  | cons a l ih =>
    intro j h
    cases j with
    | zero => exact ⟨rfl, rfl⟩
    | succ k =>
      have := ih k (by simpa using h)
      have e1 : (k + 1) * 2 = k * 2 + 2 := by omega
      have e2 : cw (a :: l) = .int .i64 a.d :: .int .i64 a.o :: cw l := rfl
      rw [e1, e2]
      refine ⟨?_, ?_⟩
      · exact this.1
      · exact this.2
theorem cw_mem {L : List Rw} {u : Value} (h : u ∈ cw L) : ∃ z, u = .int .i64 z := by
  obtain ⟨r, -, hr⟩ := List.mem_flatMap.1 h
  simp at hr
  rcases hr with rfl | rfl <;> exact ⟨_, rfl⟩

open Classical in
/-- Is a day the first of its month? -/
noncomputable def d1 (n : Int) : Bool := decide (∃ y m, Dt n y m 1)
open Classical in
theorem d1_is {n y m d : Int} (h : Dt n y m d) : d1 n = decide (d = 1) := by
  unfold d1
  by_cases e : d = 1
  · subst e
    rw [decide_eq_true (p := (1 : Int) = 1) rfl, decide_eq_true ⟨y, m, h⟩]
  · rw [decide_eq_false (p := d = 1) e, decide_eq_false]
    rintro ⟨y', m', h'⟩
    exact e (h.one h').2.2
/-- A day of the years 1900 to 9999. -/
def dtd (n : Int) : Bool := decide (-25567 ≤ n) && decide (n ≤ 2932896)
theorem dtd_year {n y m d : Int} (h : Dt n y m d) : decide (1900 ≤ y) = dtd n := by
  obtain ⟨e1, e2, _, _⟩ := h.ends
  have hr := h.range
  have k : st 1900 = -25567 := by decide
  unfold dtd
  rw [decide_eq_true (p := n ≤ 2932896) hr.2, Bool.and_true]
  by_cases c : 1900 ≤ y
  · have := st_mono c
    rw [decide_eq_true c, decide_eq_true (by omega)]
  · have := st_mono (show y + 1 ≤ 1900 by omega)
    rw [decide_eq_false c, decide_eq_false (by omega)]
theorem dtd_no {n : Int} (h : n < -4371587 ∨ 2932896 < n) : dtd n = false := by
  unfold dtd
  rcases h with h | h
  · rw [decide_eq_false (by omega)]; rfl
  · rw [decide_eq_false (p := n ≤ 2932896) (by omega), Bool.and_false]
/-- What is wrong with a row's day, with a row, with a row behind another, with a time. -/
def w1 (L : List Rw) (j : Nat) : Bool := !dtd (rd L j)
noncomputable def w2 (L : List Rw) (j : Nat) : Bool := !d1 (rd L j) || (decide (ro L j < 0) || decide (1000 < ro L j))
def pr (a b x y : Int) : Bool := decide (x ≤ a) || (decide (y - b ≠ 1) && decide (y - b ≠ -1))
def w3 (L : List Rw) (j : Nat) : Bool := pr (rd L j) (ro L j) (rd L (j + 1)) (ro L (j + 1))
def wt (z : Int) : Bool := decide (z < 0) || decide (1099511627776 < z)
open Classical in
/-- A table's error, by its number. -/
noncomputable def lkE (L : List Rw) (u e : Int) : Int :=
  if L.length = 0 then 8 else if 256 < L.length then 3 else if ∃ j, j < L.length ∧ w1 L j = true then 13
  else if (∃ j, j < L.length ∧ w2 L j = true) then 1 else if wt u = true ∨ wt e = true then 1 else if ∃ j, j < L.length - 1 ∧ w3 L j = true then 6 else 0
/-- A valid table's rows. -/
structure Vr (L : List Rw) : Prop where
  pos : 0 < L.length
  few : L.length ≤ 256
  day : ∀ j, j < L.length → -25567 ≤ rd L j ∧ rd L j ≤ 2932896
  off : ∀ j, j < L.length → 0 ≤ ro L j ∧ ro L j ≤ 1000
  ord : ∀ j, j + 1 < L.length → rd L j < rd L (j + 1) ∧ (ro L (j + 1) - ro L j = 1 ∨ ro L (j + 1) - ro L j = -1)
theorem lkE_lo (L : List Rw) (u e : Int) : 0 ≤ lkE L u e ∧ lkE L u e < 100 := by
  unfold lkE
  repeat' split
  all_goals decide
theorem lkE_zero {L : List Rw} {u e : Int} (h : lkE L u e = 0) : Vr L ∧ (0 ≤ u ∧ u ≤ 1099511627776) ∧ 0 ≤ e ∧ e ≤ 1099511627776 := by
  unfold lkE at h
  split at h
  · cases h
  split at h
  · cases h
  split at h
  · cases h
  split at h
  · cases h
  split at h
  · cases h
  split at h
  · cases h
  rename_i h1 h2 h3 h4 h5 h6
  simp only [not_exists, not_and, Bool.not_eq_true] at h3 h4 h6
  refine ⟨⟨by omega, by omega, fun j hj => ?_, fun j hj => ?_, fun j hj => ?_⟩, ?_, ?_⟩
  · have := h3 j hj
    unfold w1 dtd at this
    simpa using this
  · have := h4 j hj
    unfold w2 at this
    simp at this
    omega
  · have := h6 j (by omega)
    unfold w3 pr at this
    simp at this
    omega
  · have : wt u = false := by
      cases hu : wt u with
      | false => rfl
      | true => exact absurd (Or.inl hu) h5
    unfold wt at this
    simp at this
    omega
  · have : wt e = false := by
      cases hu : wt e with
      | false => rfl
      | true => exact absurd (Or.inr hu) h5
    unfold wt at this
    simp at this
    omega
theorem Vr.mono {L : List Rw} (h : Vr L) {i j : Nat} (hij : i < j) (hj : j < L.length) : rd L i < rd L j := by
  induction j with
  | zero => omega
  | succ k ih =>
    have := (h.ord k hj).1
    by_cases e : i = k
    · subst e; exact this
    · exact Int.lt_trans (ih (by omega) (by omega)) this

/-- How many of the first k rows' days aren't behind day n. -/
def cn (L : List Rw) (n : Int) : Nat → Nat
  | 0 => 0
  | k + 1 => if rd L k ≤ n then k + 1 else cn L n k
/-- The index of the first row behind day n. -/
def af (L : List Rw) (n : Int) : Nat := cn L n L.length
theorem cn_le (L : List Rw) (n : Int) : ∀ k, cn L n k ≤ k
  | 0 => Nat.le_refl _
  | k + 1 => by
    have := cn_le L n k
    unfold cn; split <;> omega
theorem af_le (L : List Rw) (n : Int) : af L n ≤ L.length := cn_le _ _ _
theorem cn_hi (L : List Rw) (n : Int) : ∀ k i, cn L n k ≤ i → i < k → n < rd L i
  | 0, i, _, h => absurd h (Nat.not_lt_zero _)
  | k + 1, i, h, hi => by
    unfold cn at h
    split at h
    · omega
    · by_cases e : i = k
      · subst e; omega
      · exact cn_hi L n k i h (by omega)
theorem af_hi (L : List Rw) (n : Int) {i : Nat} (h : af L n ≤ i) (hi : i < L.length) : n < rd L i := cn_hi L n _ i h hi
theorem cn_at (L : List Rw) (n : Int) : ∀ k, 0 < cn L n k → rd L (cn L n k - 1) ≤ n
  | 0, h => absurd h (Nat.lt_irrefl _)
  | k + 1, h => by
    unfold cn at h ⊢
    split
    · simpa
    · rename_i e
      rw [if_neg e] at h
      exact cn_at L n k h
theorem Vr.af_lo {L : List Rw} (V : Vr L) (n : Int) {i : Nat} (h : i < af L n) : rd L i ≤ n := by
  have h1 : rd L (af L n - 1) ≤ n := cn_at L n _ (show 0 < cn L n L.length from Nat.lt_of_le_of_lt (Nat.zero_le _) h)
  have h2 := af_le L n
  by_cases e : i = af L n - 1
  · subst e; exact h1
  · have := V.mono (i := i) (j := af L n - 1) (by omega) (by omega)
    omega
theorem Vr.af_is {L : List Rw} (V : Vr L) (n : Int) (k : Nat) (h : k ≤ L.length) (h1 : ∀ i, i < k → rd L i ≤ n) (h2 : ∀ i, k ≤ i → i < L.length → n < rd L i) : af L n = k := by
  have a := af_le L n
  rcases Nat.lt_trichotomy (af L n) k with c | c | c
  · have := h1 _ c
    have := af_hi L n (i := af L n) (Nat.le_refl _) (by omega)
    omega
  · exact c
  · have := V.af_lo n c
    have := h2 k (Nat.le_refl _) (by omega)
    omega

/-- A day's offset, and whether there is one. -/
def ofN (L : List Rw) (n : Int) : Int := if af L n = 0 then 0 else ro L (af L n - 1)
def ofB (L : List Rw) (n : Int) : Bool := !decide (af L n = 0)
/-- The next day that is long or short: the row behind it; whether there is one, the day, its Leap. -/
def nx (L : List Rw) (n : Int) : Nat := if af L n = 0 then 1 else af L n
def nxB (L : List Rw) (n : Int) : Bool := decide (nx L n < L.length)
def nxD (L : List Rw) (n : Int) : Int := if nx L n < L.length then rd L (nx L n) - 1 else 0
def nxK (L : List Rw) (n : Int) : Int := if nx L n < L.length then ro L (nx L n) - ro L (nx L n - 1) else 0
/-- A day's Leap. -/
def lpN (L : List Rw) (n : Int) : Int := if nx L n < L.length ∧ rd L (nx L n) - 1 = n then ro L (nx L n) - ro L (nx L n - 1) else 0
theorem nx_pos (L : List Rw) (n : Int) : 0 < nx L n := by unfold nx; split <;> omega
theorem Vr.nxK_bd {L : List Rw} (V : Vr L) (n : Int) : nxK L n = 0 ∨ nxK L n = 1 ∨ nxK L n = -1 := by
  unfold nxK
  split
  · rename_i h
    have := (V.ord (nx L n - 1) (by have := nx_pos L n; omega)).2
    rw [show nx L n - 1 + 1 = nx L n by have := nx_pos L n; omega] at this
    omega
  · exact .inl rfl
theorem lpN_is (L : List Rw) (n : Int) : lpN L n = if nxB L n = false ∨ nxD L n ≠ n then 0 else nxK L n := by
  unfold lpN nxB nxD nxK
  by_cases h : nx L n < L.length
  · rw [decide_eq_true h, if_pos h, if_pos h]
    by_cases e : rd L (nx L n) - 1 = n
    · rw [if_pos ⟨h, e⟩, if_neg]; simp [e]
    · rw [if_neg (fun c => e c.2), if_pos]; simp [e]
  · rw [if_neg (fun c => h c.1), if_pos]; simp [h]
theorem Vr.lpN_bd {L : List Rw} (V : Vr L) (n : Int) : lpN L n = 0 ∨ lpN L n = 1 ∨ lpN L n = -1 := by
  rw [lpN_is]
  split
  · exact .inl rfl
  · exact V.nxK_bd n
theorem lpN_nil (n : Int) : lpN [] n = 0 := by unfold lpN; rw [if_neg]; simp
theorem nxK_nil (n : Int) : nxK [] n = 0 := rfl
/-- From the first row on a day's offset is the one ahead and that day's Leap. -/
theorem Vr.step {L : List Rw} (V : Vr L) (n : Int) (h : ofB L n = true) : ofB L (n + 1) = true ∧ ofN L (n + 1) - ofN L n = lpN L n := by
  have h0 : af L n ≠ 0 := by
    intro e
    unfold ofB at h
    rw [e] at h
    simp at h
  have ha := af_le L n
  by_cases c : af L n < L.length ∧ rd L (af L n) - 1 = n
  · have e : af L (n + 1) = af L n + 1 := V.af_is _ _ (by omega) (fun i hi => by
      by_cases e : i = af L n
      · subst e; omega
      · have := V.af_lo n (i := i) (by omega); omega) (fun i h1 h2 => by
      have := V.mono (i := af L n) (j := i) (by omega) h2
      omega)
    refine ⟨?_, ?_⟩
    · unfold ofB; rw [e]; simp
    · unfold ofN lpN nx
      rw [e, if_neg h0, if_neg (by omega), if_neg h0, if_pos c]
      simp
  · have e : af L (n + 1) = af L n := V.af_is _ _ ha (fun i hi => by have := V.af_lo n hi; omega) (fun i h1 h2 => by
      have h3 := af_hi L n h1 h2
      rcases Nat.lt_or_ge (af L n) i with g | g
      · have := V.mono g h2
        have := af_hi L n (Nat.le_refl _) (by omega : af L n < L.length)
        omega
      · obtain rfl : i = af L n := by omega
        by_cases q : rd L (af L n) - 1 = n
        · exact absurd ⟨h2, q⟩ c
        · omega)
    refine ⟨?_, ?_⟩
    · unfold ofB; rw [e]; simpa using h0
    · unfold ofN lpN nx
      rw [e, if_neg h0, if_neg h0, if_neg c]
      omega
theorem Vr.before {L : List Rw} (V : Vr L) (n : Int) (h : ofB L n = false) : ofN L n = 0 ∧ lpN L n = 0 := by
  have h0 : af L n = 0 := by unfold ofB at h; simpa using h
  refine ⟨?_, ?_⟩
  · unfold ofN; rw [if_pos h0]
  · unfold lpN
    rw [if_neg]
    rintro ⟨h1, h2⟩
    unfold nx at h1 h2
    rw [if_pos h0] at h1 h2
    have := V.mono (i := 0) (j := 1) (by omega) h1
    have := af_hi L n (i := 0) (by omega) (by omega)
    omega

end Go.Proofs.YtdonicaiimeleaaGreatDoor
