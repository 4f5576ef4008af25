/- Merged: NumM, DayM, RulM. -/
import GoSem.Claim
import Derived.RowKit
import Derived.IntWalk
namespace Go.Proofs.Ytkhcneacjnpcnaa
open Go.RowKit

/-- Does a number fit 64 bits? -/
def fits (z : Int) : Prop := -9223372036854775808 ≤ z ∧ z ≤ 9223372036854775807
instance (z : Int) : Decidable (fits z) := by unfold fits; infer_instance
/-- An error's value, by its number. -/
def ev (k : Int) : Value := if k = 0 then .nilIface else .iface 54 (.int .i64 k)

theorem ev_pos {k : Int} (h : 0 < k) : ev k = .iface 54 (.int .i64 k) := by unfold ev; rw [if_neg (by omega)]
theorem ret2_eq {x x' y y' : Value} (h : x = x') (k : y = y') : Ending.returned (.tuple #[x, y]) = Ending.returned (.tuple #[x', y']) := by rw [h, k]
theorem int_eq {k : IntKind} {a b : Int} (h : a = b) : Value.int k a = Value.int k b := by rw [h]
theorem bool_eq {a b : Bool} (h : a = b) : Value.bool a = Value.bool b := by rw [h]
theorem ret1_eq {x x' : Value} (h : x = x') : Ending.returned x = Ending.returned x' := by rw [h]

/-! products -/
/-! quotients -/
end Go.Proofs.Ytkhcneacjnpcnaa

namespace Go.Proofs.Ytkhcneacjnpcnaa
open Go.RowKit
set_option linter.unusedVariables false

/-- Is it a leap year? -/
def lp (y : Int) : Bool := decide (y % 4 = 0 ∧ (y % 100 ≠ 0 ∨ y % 400 = 0))
/-- How many days a year has. -/
def yd (y : Int) : Int := if lp y = true then 366 else 365
/-- The number of a year's first day. -/
def st (y : Int) : Int := 365 * (y - 1970) + (y - 1) / 4 - (y - 1) / 100 + (y - 1) / 400 - 477
/-- The ends of the months of a year that isn't a leap year. -/
def endsL : List Int := [0, 31, 59, 90, 120, 151, 181, 212, 243, 273, 304, 334, 365]
def e0 (m : Int) : Int := endsL.getD m.toNat 0
/-- How many days of a year are over at the end of a month. -/
def em (y m : Int) : Int := if 2 ≤ m ∧ lp y = true then e0 m + 1 else e0 m
/-- How many days a month has. -/
def ml (y m : Int) : Int := em y m - em y (m - 1)
/-- Is it a year? -/
def isy (y : Int) : Prop := -9999 ≤ y ∧ y ≤ 9999
instance (y : Int) : Decidable (isy y) := by unfold isy; infer_instance
/-- Weekdays. -/
def wd (n : Int) : Int := (n + 3) % 7 + 1

/-- A date of a number. -/
def Dt (n y m d : Int) : Prop := isy y ∧ 1 ≤ m ∧ m ≤ 12 ∧ 1 ≤ d ∧ d ≤ ml y m ∧ n = st y + em y (m - 1) + d - 1

/-! leap years -/
theorem lp_yes {y : Int} : lp y = true ↔ (y % 4 = 0 ∧ (y % 100 ≠ 0 ∨ y % 400 = 0)) := by unfold lp; simp
theorem lp_no {y : Int} : lp y = false ↔ ¬ (y % 4 = 0 ∧ (y % 100 ≠ 0 ∨ y % 400 = 0)) := by unfold lp; simp
/-! years -/
theorem quarter (z : Int) (b : Int) (hb : 0 < b) : (z + 1) / b - z / b = if (z + 1) % b = 0 then 1 else 0 := by
  have h1 := Int.emod_add_mul_ediv z b
  have h2 := Int.emod_add_mul_ediv (z + 1) b
  have p1 := Int.emod_nonneg z (by omega : b ≠ 0)
  have p2 := Int.emod_lt_of_pos z hb
  have p3 := Int.emod_nonneg (z + 1) (by omega : b ≠ 0)
  have p4 := Int.emod_lt_of_pos (z + 1) hb
  generalize hq : z / b = q at *
  generalize hq2 : (z + 1) / b = q2 at *
  have e : b * (q2 - q) = 1 + z % b - (z + 1) % b := by rw [Int.mul_sub]; omega
  split
  · next h =>
    rw [h] at e
    have hd : q2 - q = 1 := by
      have l1 : 0 < b * (q2 - q) := by omega
      have l2 : b * (q2 - q) < b * 2 := by omega
      have g1 : 0 < q2 - q := by
        rcases Int.lt_or_le 0 (q2 - q) with g | g
        · exact g
        · have := Int.mul_le_mul_of_nonneg_left g (by omega : (0 : Int) ≤ b); omega
      have g2 : q2 - q < 2 := Int.lt_of_mul_lt_mul_left l2 (by omega)
      omega
    exact hd
  · next h =>
    have l1 : b * (q2 - q) < b * 1 := by omega
    have l2 : b * (-1) < b * (q2 - q) := by omega
    have g1 := Int.lt_of_mul_lt_mul_left l1 (by omega)
    have g2 := Int.lt_of_mul_lt_mul_left l2 (by omega)
    omega
theorem st_succ (y : Int) : st (y + 1) = st y + yd y := by
  unfold st yd
  have h4 := quarter (y - 1) 4 (by omega)
  have h100 := quarter (y - 1) 100 (by omega)
  have h400 := quarter (y - 1) 400 (by omega)
  rw [show y - 1 + 1 = y by omega] at h4 h100 h400
  rw [show y + 1 - 1 = y by omega]
  cases hl : lp y with
  | true =>
    obtain ⟨a, b⟩ := lp_yes.1 hl
    rw [if_pos a] at h4
    rw [if_pos rfl]
    by_cases c : y % 400 = 0
    · rw [if_pos c] at h400; rw [if_pos (by omega)] at h100; omega
    · rw [if_neg c] at h400; rw [if_neg (by omega)] at h100; omega
  | false =>
    have a := lp_no.1 hl
    rw [if_neg (by decide)]
    by_cases b : y % 4 = 0
    · have c : y % 100 = 0 := by omega
      have d : ¬ y % 400 = 0 := by omega
      rw [if_pos b] at h4; rw [if_pos c] at h100; rw [if_neg d] at h400; omega
    · rw [if_neg b] at h4; rw [if_neg (by omega)] at h100; rw [if_neg (by omega)] at h400; omega
theorem yd_bd (y : Int) : 365 ≤ yd y ∧ yd y ≤ 366 := by unfold yd; split <;> omega
theorem st_first : st (-9999) = -4371587 := by decide
theorem st_end : st 10000 = 2932897 := by decide
theorem st_add (y : Int) : ∀ k : Nat, st y + 365 * k ≤ st (y + k) ∧ st (y + k) ≤ st y + 366 * k
  | 0 => by simp
  | k + 1 => by
    have ih := st_add y k; have h := st_succ (y + k); have b := yd_bd (y + k)
    rw [show y + ((k + 1 : Nat) : Int) = y + k + 1 by omega]
    omega
theorem st_mono {a b : Int} (h : a ≤ b) : st a ≤ st b := by
  have := st_add a (b - a).toNat
  rw [show a + ((b - a).toNat : Int) = b by omega] at this
  omega
theorem st_in {y : Int} (h : isy y) : -4371587 ≤ st y ∧ st y + yd y ≤ 2932897 := by
  have h1 := st_mono h.1; have h2 := st_mono (show y + 1 ≤ 10000 by have := h.2; omega)
  rw [st_first] at h1; rw [st_end, st_succ] at h2
  exact ⟨h1, h2⟩

/-! months -/
theorem twelve {m : Int} (h : 1 ≤ m) (h' : m ≤ 12) : m = 1 ∨ m = 2 ∨ m = 3 ∨ m = 4 ∨ m = 5 ∨ m = 6 ∨ m = 7 ∨ m = 8 ∨ m = 9 ∨ m = 10 ∨ m = 11 ∨ m = 12 := by omega
theorem em_yd (y : Int) : em y 12 = yd y := by unfold em yd; cases lp y <;> rfl
theorem ml_bd (y : Int) {m : Int} (h : 1 ≤ m) (h' : m ≤ 12) : 28 ≤ ml y m ∧ ml y m ≤ 31 := by
  unfold ml em
  cases lp y <;> (rcases twelve h h' with rfl | rfl | rfl | rfl | rfl | rfl | rfl | rfl | rfl | rfl | rfl | rfl <;> decide)
theorem em_bd (y : Int) {m : Int} (h : 0 ≤ m) (h' : m ≤ 12) : 0 ≤ em y m ∧ em y m ≤ 366 := by
  unfold em
  rcases (by omega : m = 0 ∨ 1 ≤ m) with rfl | h1
  · cases lp y <;> decide
  · cases lp y <;> (rcases twelve h1 h' with rfl | rfl | rfl | rfl | rfl | rfl | rfl | rfl | rfl | rfl | rfl | rfl <;> decide)
theorem em_succ (y m : Int) : em y m = em y (m - 1) + ml y m := by unfold ml; omega
theorem em_add (y : Int) {a : Int} (ha : 0 ≤ a) : ∀ k : Nat, a + k ≤ 12 → em y a ≤ em y (a + k)
  | 0, _ => by simp
  | k + 1, h => by
    have ih := em_add y ha k (by omega)
    have e := em_succ y (a + (k + 1 : Nat))
    have b := ml_bd y (m := a + (k + 1 : Nat)) (by omega) (by omega)
    rw [show a + ((k + 1 : Nat) : Int) - 1 = a + k by omega] at e
    omega
theorem em_mono (y : Int) {a b : Int} (ha : 0 ≤ a) (h : a ≤ b) (hb : b ≤ 12) : em y a ≤ em y b := by
  have := em_add y ha (b - a).toNat (by omega)
  rwa [show a + ((b - a).toNat : Int) = b by omega] at this
theorem em_le (y : Int) {m : Int} (h : 0 ≤ m) (h' : m ≤ 12) : em y m ≤ yd y := by have := em_mono y h h' (by omega); rwa [em_yd] at this

/-! dates -/
theorem Dt.ends {n y m d : Int} (h : Dt n y m d) : st y ≤ n ∧ n < st (y + 1) ∧ em y (m - 1) ≤ n - st y ∧ n - st y < em y m := by
  obtain ⟨hy, m1, m2, d1, d2, rfl⟩ := h
  have e := em_succ y m; have b := em_bd y (m := m - 1) (by omega) (by omega); have c := em_le y (m := m) (by omega) m2
  rw [st_succ]
  omega
theorem Dt.range {n y m d : Int} (h : Dt n y m d) : -4371587 ≤ n ∧ n ≤ 2932896 := by
  have e := h.ends; have b := st_in h.1
  rw [st_succ] at e
  omega
theorem Dt.one {n y m d y' m' d' : Int} (h : Dt n y m d) (h' : Dt n y' m' d') : y = y' ∧ m = m' ∧ d = d' := by
  have e := h.ends; have e' := h'.ends
  have hy : y = y' := by
    rcases (by omega : y < y' ∨ y' < y ∨ y = y') with g | g | g
    · have := st_mono (show y + 1 ≤ y' by omega); omega
    · have := st_mono (show y' + 1 ≤ y by omega); omega
    · exact g
  subst hy
  have hm : m = m' := by
    obtain ⟨_, m1, m2, _⟩ := h; obtain ⟨_, m1', m2', _⟩ := h'
    rcases (by omega : m < m' ∨ m' < m ∨ m = m') with g | g | g
    · have := em_mono y (a := m) (b := m' - 1) (by omega) (by omega) (by omega); omega
    · have := em_mono y (a := m') (b := m - 1) (by omega) (by omega) (by omega); omega
    · exact g
  subst hm
  have a := h.2.2.2.2.2; have b := h'.2.2.2.2.2
  exact ⟨rfl, rfl, by omega⟩
end Go.Proofs.Ytkhcneacjnpcnaa

namespace Go.Proofs.Ytkhcneacjnpcnaa
open Go.RowKit
set_option linter.unusedVariables false

/-- A rule: its kind, month, week, day and time. -/
structure Ru where
  K : Int
  M : Int
  W : Int
  D : Int
  T : Int
def Ru.cells (r : Ru) : Array Value := #[.int .i64 r.K, .int .i64 r.M, .int .i64 r.W, .int .i64 r.D, .int .i64 r.T]
def ru0 : Ru := ⟨0, 0, 0, 0, 0⟩

/-- Is a number within two others? -/
def wiB (n a b : Int) : Bool := decide (a ≤ n) && decide (n ≤ b)
theorem wiB_yes {n a b : Int} : wiB n a b = true ↔ a ≤ n ∧ n ≤ b := by unfold wiB; simp
theorem wiB_no {n a b : Int} : wiB n a b = false ↔ ¬ (a ≤ n ∧ n ≤ b) := by
  rw [← wiB_yes]; simp
/-- Has a rule of its kind such a day? -/
def hdP (r : Ru) : Prop := if r.K = 3 then 1 ≤ r.M ∧ r.M ≤ 12 ∧ 1 ≤ r.W ∧ r.W ≤ 5 ∧ 0 ≤ r.D ∧ r.D ≤ 6 else r.M = 0 ∧ r.W = 0 ∧ (if r.K = 1 then 1 else 0) ≤ r.D ∧ r.D ≤ 365
instance (r : Ru) : Decidable (hdP r) := by unfold hdP; infer_instance
/-- Is it a known kind? A time of a rule? -/
def kdP (r : Ru) : Prop := 1 ≤ r.K ∧ r.K ≤ 3
instance (r : Ru) : Decidable (kdP r) := by unfold kdP; infer_instance
def tmP (r : Ru) : Prop := -604799 ≤ r.T ∧ r.T ≤ 604799
instance (r : Ru) : Decidable (tmP r) := by unfold tmP; infer_instance
/-- The error's number of a rule. -/
def ruE (r : Ru) : Int := if kdP r then (if hdP r ∧ tmP r then 0 else 1) else 11
theorem ruE_cases (r : Ru) : ruE r = 0 ∨ ruE r = 1 ∨ ruE r = 11 := by
  unfold ruE; split
  · split
    · exact .inl rfl
    · exact .inr (.inl rfl)
  · exact .inr (.inr rfl)
theorem ruE_zero {r : Ru} (h : ruE r = 0) : kdP r ∧ hdP r ∧ tmP r := by
  unfold ruE at h; split at h
  · next a =>
    split at h
    · next b => exact ⟨a, b.1, b.2⟩
    · cases h
  · cases h
theorem ruE_bd (r : Ru) : 0 ≤ ruE r ∧ ruE r < 100 := by rcases ruE_cases r with h | h | h <;> omega
/-- A right rule of each kind. -/
theorem ruE_kinds {r : Ru} (h : ruE r = 0) : (r.K = 1 ∧ r.M = 0 ∧ r.W = 0 ∧ 1 ≤ r.D ∧ r.D ≤ 365) ∨ (r.K = 2 ∧ r.M = 0 ∧ r.W = 0 ∧ 0 ≤ r.D ∧ r.D ≤ 365) ∨ (r.K = 3 ∧ 1 ≤ r.M ∧ r.M ≤ 12 ∧ 1 ≤ r.W ∧ r.W ≤ 5 ∧ 0 ≤ r.D ∧ r.D ≤ 6) := by
  obtain ⟨⟨a, b⟩, c, -⟩ := ruE_zero h
  unfold hdP at c
  rcases (by omega : r.K = 1 ∨ r.K = 2 ∨ r.K = 3) with k | k | k
  · rw [if_neg (by omega), if_pos k] at c; exact .inl ⟨k, c⟩
  · rw [if_neg (by omega), if_neg (by omega)] at c; exact .inr (.inl ⟨k, c⟩)
  · rw [if_pos k] at c; exact .inr (.inr ⟨k, c⟩)

/-! days -/
/-- The number of a month's first day. -/
def fm (y m : Int) : Int := st y + em y (m - 1)
/-- How many days ahead of the first such weekday. -/
def a0 (y m d : Int) : Int := (d - wd (fm y m) + 7) % 7
/-- What Day and At answer. -/
def yrP (y : Int) : Prop := -10001 ≤ y ∧ y ≤ 10001
instance (y : Int) : Decidable (yrP y) := by unfold yrP; infer_instance
/-! years that are alike -/
/-! the document's weekly day: days looked at one by one -/
/-! the document's plain day: by its month in a year of 365 days -/
/-! the rule's day as a date -/
end Go.Proofs.Ytkhcneacjnpcnaa
