/- Rules for when clocks are changed, as plain numbers: which ones there are, their days and seconds. No walk stands here. -/
import Derived.Test.YtkhcneacjnpcnaaDoorDayM
namespace Go.Proofs.YtkhcneacjnpcnaaDoor
open Go.RowKit
set_option linter.unusedVariables false

/-- A rule: its kind, month, week, day and time. -/
structure Ru where
  K : Int
  M : Int
  W : Int
  D : Int
  T : Int
def Ru.cells (r : Ru) : Array Value := #[.int .i64 r.K, .int .i64 r.M, .int .i64 r.W, .int .i64 r.D, .int .i64 r.T]
def Ru.Fit (r : Ru) : Prop := fits r.K ∧ fits r.M ∧ fits r.W ∧ fits r.D ∧ fits r.T
def ru0 : Ru := ⟨0, 0, 0, 0, 0⟩

/-- Is a number within two others? -/
def wiB (n a b : Int) : Bool := decide (a ≤ n) && decide (n ≤ b)
theorem wiB_yes {n a b : Int} : wiB n a b = true ↔ a ≤ n ∧ n ≤ b := by unfold wiB; simp
theorem wiB_no {n a b : Int} : wiB n a b = false ↔ ¬ (a ≤ n ∧ n ≤ b) := by
  rw [← wiB_yes]; simp
/-- Has a rule of its kind such a day? -/
def hdP (r : Ru) : Prop := if r.K = 3 then 1 ≤ r.M ∧ r.M ≤ 12 ∧ 1 ≤ r.W ∧ r.W ≤ 5 ∧ 0 ≤ r.D ∧ r.D ≤ 6 else r.M = 0 ∧ r.W = 0 ∧ (if r.K = 1 then 1 else 0) ≤ r.D ∧ r.D ≤ 365
instance (r : Ru) : Decidable (hdP r) := by unfold hdP; infer_instance
/-- Is it a known kind? A time of a rule? -/
def kdP (r : Ru) : Prop := 1 ≤ r.K ∧ r.K ≤ 3
instance (r : Ru) : Decidable (kdP r) := by unfold kdP; infer_instance
def tmP (r : Ru) : Prop := -604799 ≤ r.T ∧ r.T ≤ 604799
instance (r : Ru) : Decidable (tmP r) := by unfold tmP; infer_instance
/-- The error's number of a rule. -/
def ruE (r : Ru) : Int := if kdP r then (if hdP r ∧ tmP r then 0 else 1) else 11
theorem ruE_cases (r : Ru) : ruE r = 0 ∨ ruE r = 1 ∨ ruE r = 11 := by
  unfold ruE; split
  · split
    · exact .inl rfl
    · exact .inr (.inl rfl)
  · exact .inr (.inr rfl)
theorem ruE_zero {r : Ru} (h : ruE r = 0) : kdP r ∧ hdP r ∧ tmP r := by
  unfold ruE at h; split at h
  · next a =>
    split at h
    · next b => exact ⟨a, b.1, b.2⟩
    · cases h
  · cases h
theorem ruE_bd (r : Ru) : 0 ≤ ruE r ∧ ruE r < 100 := by rcases ruE_cases r with h | h | h <;> omega
/-- A right rule of each kind. -/
theorem ruE_kinds {r : Ru} (h : ruE r = 0) : (r.K = 1 ∧ r.M = 0 ∧ r.W = 0 ∧ 1 ≤ r.D ∧ r.D ≤ 365) ∨ (r.K = 2 ∧ r.M = 0 ∧ r.W = 0 ∧ 0 ≤ r.D ∧ r.D ≤ 365) ∨ (r.K = 3 ∧ 1 ≤ r.M ∧ r.M ≤ 12 ∧ 1 ≤ r.W ∧ r.W ≤ 5 ∧ 0 ≤ r.D ∧ r.D ≤ 6) := by
  obtain ⟨⟨a, b⟩, c, -⟩ := ruE_zero h
  unfold hdP at c
  rcases (by omega : r.K = 1 ∨ r.K = 2 ∨ r.K = 3) with k | k | k
  · rw [if_neg (by omega), if_pos k] at c; exact .inl ⟨k, c⟩
  · rw [if_neg (by omega), if_neg (by omega)] at c; exact .inr (.inl ⟨k, c⟩)
  · rw [if_pos k] at c; exact .inr (.inr ⟨k, c⟩)

/-! days -/
/-- The number of a month's first day. -/
def fm (y m : Int) : Int := st y + em y (m - 1)
/-- How many days ahead of the first such weekday. -/
def a0 (y m d : Int) : Int := (d - wd (fm y m) + 7) % 7
/-- A weekly rule's day, by how many days are ahead of it in the month. -/
def ahN (y : Int) (r : Ru) : Int := if ml y r.M ≤ a0 y r.M r.D + 7 * (r.W - 1) then a0 y r.M r.D + 7 * (r.W - 1) - 7 else a0 y r.M r.D + 7 * (r.W - 1)
/-- How many days of a year are over. -/
def psN (y : Int) (r : Ru) : Int := if r.K = 3 then em y (r.M - 1) + ahN y r else if r.K = 1 then (if r.D < 60 ∨ lp y = false then r.D - 1 else r.D) else r.D
/-- What Day and At answer. -/
def yrP (y : Int) : Prop := -10001 ≤ y ∧ y ≤ 10001
instance (y : Int) : Decidable (yrP y) := by unfold yrP; infer_instance
def duE (r : Ru) (y : Int) : Int := if ruE r ≠ 0 then ruE r else if yrP y then 0 else 13
def duN (r : Ru) (y : Int) : Int := if duE r y = 0 then st y + psN y r else 0
def duS (r : Ru) (y : Int) : Int := if duE r y = 0 then 86400 * (st y + psN y r) + r.T else 0
theorem duE_cases (r : Ru) (y : Int) : (ruE r ≠ 0 ∧ duE r y = ruE r) ∨ (ruE r = 0 ∧ ¬ yrP y ∧ duE r y = 13) ∨ (ruE r = 0 ∧ yrP y ∧ duE r y = 0) := by
  unfold duE
  by_cases a : ruE r = 0
  · rw [if_neg (by omega)]
    by_cases b : yrP y
    · exact .inr (.inr ⟨a, b, if_pos b⟩)
    · exact .inr (.inl ⟨a, b, if_neg b⟩)
  · exact .inl ⟨a, if_pos a⟩

/-! years that are alike -/
theorem lp_like (y : Int) : lp (2000 + y.tmod 400) = lp y := by
  have h := Int.tmod_add_mul_tdiv y 400
  unfold lp
  congr 1
  generalize y.tmod 400 = r at *
  generalize y.tdiv 400 = q at *
  apply propext
  omega
theorem like_bd (y : Int) : -400 < y.tmod 400 ∧ y.tmod 400 < 400 := ⟨Int.lt_tmod_of_pos y (by omega), Int.tmod_lt_of_pos y (by omega)⟩
theorem em_like (y m : Int) : em (2000 + y.tmod 400) m = em y m := by unfold em; rw [lp_like]
theorem ml_like (y m : Int) : ml (2000 + y.tmod 400) m = ml y m := by unfold ml; rw [em_like, em_like]
theorem st_like (y : Int) : ∃ q, st y = st (2000 + y.tmod 400) + 146097 * q := by
  have h := Int.tmod_add_mul_tdiv y 400
  refine ⟨y.tdiv 400 - 5, ?_⟩
  unfold st
  generalize y.tmod 400 = r at *
  generalize y.tdiv 400 = q at *
  omega
theorem wd_like (y m : Int) : wd (fm (2000 + y.tmod 400) m) = wd (fm y m) := by
  obtain ⟨q, hq⟩ := st_like y
  unfold fm wd
  rw [em_like, hq]
  omega
theorem isy_like (y : Int) : isy (2000 + y.tmod 400) := by have := like_bd y; unfold isy; omega
/-- Of at the first of a month of a year with dates. -/
theorem of_first {y m : Int} (hy : isy y) (h1 : 1 ≤ m) (h2 : m ≤ 12) : ckd y m 1 = 0 ∧ ofR y m 1 = fm y m := by
  have b := ml_bd y h1 h2
  have c : ckd y m 1 = 0 := by unfold ckd; rw [if_pos hy, if_neg (by omega), if_neg (by omega)]
  refine ⟨c, ?_⟩
  unfold ofR fm; rw [if_pos c]; omega
theorem a0_bd (y m d : Int) : 0 ≤ a0 y m d ∧ a0 y m d ≤ 6 := by unfold a0; omega
/-- A weekly rule's day lies in the month. -/
theorem ah_bd {y : Int} {r : Ru} (hm : 1 ≤ r.M) (hm2 : r.M ≤ 12) (hw : 1 ≤ r.W) (hw2 : r.W ≤ 5) : 0 ≤ ahN y r ∧ ahN y r < ml y r.M := by
  have a := a0_bd y r.M r.D
  have b := ml_bd y hm hm2
  unfold ahN; split <;> omega
/-- Days are near. -/
theorem ps_bd {y : Int} {r : Ru} (h : ruE r = 0) : 0 ≤ psN y r ∧ psN y r ≤ 400 := by
  unfold psN
  rcases ruE_kinds h with ⟨k, -, -, d1, d2⟩ | ⟨k, -, -, d1, d2⟩ | ⟨k, m1, m2, w1, w2, d1, d2⟩
  · rw [if_neg (by omega), if_pos k]; split <;> omega
  · rw [if_neg (by omega), if_neg (by omega)]; omega
  · rw [if_pos k]
    have a := ah_bd (y := y) (r := r) m1 m2 w1 w2
    have b := ml_bd y m1 m2
    have c := em_bd y (m := r.M - 1) (by omega) (by omega)
    omega

/-! the document's weekly day: days looked at one by one -/
/-- How many such weekdays lie ahead of the day x of a month, at most w; the last one of these. -/
def mnN (a w x : Int) : Int := min w ((x + 5 - a) / 7)
def fdN (f a w x : Int) : Int := if mnN a w x = 0 then 0 else f + a + 7 * (mnN a w x - 1)
theorem mn_one {a w : Int} (f : Int) (ha : 0 ≤ a) (ha2 : a ≤ 6) (hw : 1 ≤ w) : mnN a w 1 = 0 ∧ fdN f a w 1 = 0 := by
  have h : mnN a w 1 = 0 := by unfold mnN; omega
  exact ⟨h, by unfold fdN; rw [if_pos h]⟩
theorem mn_bd {a w x : Int} (ha : 0 ≤ a) (ha2 : a ≤ 6) (hw : 1 ≤ w) (hx : 1 ≤ x) : 0 ≤ mnN a w x ∧ mnN a w x ≤ w := by unfold mnN; omega
theorem mn_yes {a w x : Int} (f : Int) (ha : 0 ≤ a) (ha2 : a ≤ 6) (hx : 1 ≤ x) (h : (x - 1 - a) % 7 = 0) (hw : mnN a w x < w) : mnN a w (x + 1) = mnN a w x + 1 ∧ fdN f a w (x + 1) = f + x - 1 := by
  have e : mnN a w (x + 1) = mnN a w x + 1 := by unfold mnN at *; omega
  refine ⟨e, ?_⟩
  unfold fdN
  have e2 : mnN a w (x + 1) = (x + 1 + 5 - a) / 7 := by unfold mnN at *; omega
  rw [e2, if_neg (by omega)]; omega
theorem mn_no {a w x : Int} (f : Int) (ha : 0 ≤ a) (ha2 : a ≤ 6) (hx : 1 ≤ x) (h : (x - 1 - a) % 7 ≠ 0 ∨ ¬ mnN a w x < w) : mnN a w (x + 1) = mnN a w x ∧ fdN f a w (x + 1) = fdN f a w x := by
  have e : mnN a w (x + 1) = mnN a w x := by unfold mnN at *; omega
  exact ⟨e, by unfold fdN; rw [e]⟩
/-- Such weekdays, told by the days ahead of the first one. -/
theorem wd_is {y m d x : Int} (hd : 0 ≤ d) (hd2 : d ≤ 6) : wd (fm y m + x - 1) % 7 = d ↔ (x - 1 - a0 y m d) % 7 = 0 := by
  unfold a0 wd; generalize fm y m = f; omega
theorem fd_end {y : Int} {r : Ru} (m1 : 1 ≤ r.M) (m2 : r.M ≤ 12) (w1 : 1 ≤ r.W) (w2 : r.W ≤ 5) : fdN (fm y r.M) (a0 y r.M r.D) r.W (ml y r.M + 1) = fm y r.M + ahN y r := by
  have a := a0_bd y r.M r.D
  have b := ml_bd y m1 m2
  unfold fdN mnN ahN
  generalize a0 y r.M r.D = A at *
  generalize ml y r.M = L at *
  split <;> split <;> omega

/-! the document's plain day: by its month in a year of 365 days -/
theorem em_2001 (m : Int) : em 2001 m = e0 m := by
  unfold em; rw [if_neg]; rintro ⟨-, h⟩; revert h; decide
theorem pl_day {y d m n : Int} (m1 : 1 ≤ m) (m2 : m ≤ 12) (hn : n = d - em 2001 (m - 1)) (n1 : 1 ≤ n) (n2 : n ≤ ml 2001 m) : st y + em y (m - 1) + n - 1 = st y + (if d < 60 ∨ lp y = false then d - 1 else d) := by
  have e := em_succ 2001 m
  rw [em_2001] at e
  rw [em_2001] at hn e
  have g : em y (m - 1) = if 2 ≤ m - 1 ∧ lp y = true then e0 (m - 1) + 1 else e0 (m - 1) := rfl
  cases h : lp y with
  | false => rw [if_pos (Or.inr rfl)]; rw [h, if_neg (by simp)] at g; omega
  | true =>
    rw [h] at g
    have hb : (m - 1 ≤ 1 ∧ d < 60) ∨ (2 ≤ m - 1 ∧ 60 ≤ d) := by
      rcases twelve m1 m2 with rfl | rfl | rfl | rfl | rfl | rfl | rfl | rfl | rfl | rfl | rfl | rfl <;> simp [e0, endsL] at e hn <;> omega
    rcases hb with ⟨b1, b2⟩ | ⟨b1, b2⟩
    · rw [if_neg (by omega)] at g; rw [if_pos (Or.inl b2)]; omega
    · rw [if_pos ⟨b1, rfl⟩] at g; rw [if_neg (by simp; omega)]; omega

/-! the rule's day as a date -/
theorem dt_rule {y : Int} {r : Ru} (hy : isy y) (m1 : 1 ≤ r.M) (m2 : r.M ≤ 12) (w1 : 1 ≤ r.W) (w2 : r.W ≤ 5) : Dt (st y + (em y (r.M - 1) + ahN y r)) y r.M (ahN y r + 1) := by
  have a := ah_bd (y := y) (r := r) m1 m2 w1 w2
  exact ⟨hy, m1, m2, by omega, by omega, by omega⟩
/-- Beyond the years with dates. -/
theorem far_rule {y p : Int} (hy : ¬ isy y) (hp : 0 ≤ p) (hp2 : p < yd y) : st y + p < -4371587 ∨ 2932896 < st y + p := by
  rcases (by unfold isy at hy; omega : y < -9999 ∨ 9999 < y) with h | h
  · left
    have := st_lt h
    rw [st_first] at this
    omega
  · right
    have := st_mono (show 10000 ≤ y by omega)
    rw [st_end] at this
    omega
theorem wk_place {y : Int} {r : Ru} (m1 : 1 ≤ r.M) (m2 : r.M ≤ 12) (w1 : 1 ≤ r.W) (w2 : r.W ≤ 5) (d1 : 0 ≤ r.D) (d2 : r.D ≤ 6) :
    wd (st y + (em y (r.M - 1) + ahN y r)) % 7 = r.D ∧ ((ahN y r + 1 - 1) / 7 = r.W - 1 ∨ (r.W = 5 ∧ ml y r.M < ahN y r + 1 + 7)) := by
  have a := a0_bd y r.M r.D
  have b := ml_bd y m1 m2
  have e : st y + (em y (r.M - 1) + ahN y r) = fm y r.M + (ahN y r + 1) - 1 := by unfold fm; omega
  rw [e, wd_is d1 d2]
  unfold ahN
  generalize a0 y r.M r.D = A at *
  generalize ml y r.M = L at *
  split <;> omega
theorem day_2024 : st 2024 + psN 2024 ⟨3, 3, 2, 0, 7200⟩ = 19792 := by decide
end Go.Proofs.YtkhcneacjnpcnaaDoor
