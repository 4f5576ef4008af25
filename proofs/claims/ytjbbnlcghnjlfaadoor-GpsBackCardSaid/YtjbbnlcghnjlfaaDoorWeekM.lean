/- Weeks as plain numbers, and the text of a day as a list of bytes. No walk stands here. -/
import Derived.Test.YtjbbnlcghnjlfaaDoorDayM
import Derived.Test.YtjbbnlcghnjlfaaDoorFigM
namespace Go.Proofs.YtjbbnlcghnjlfaaDoor
open Go.RowKit
set_option linter.unusedVariables false

/-- The number of the Monday of a year's first week. -/
def mo (y : Int) : Int := st y + 3 - (wd (st y + 3) - 1)
/-- How many weeks a year has. -/
def wk (y : Int) : Int := (mo (y + 1) - mo y) / 7
/-- The day n lies in the weeks of the year Y. -/
def Wk (n Y : Int) : Prop := mo Y ≤ n ∧ n < mo (Y + 1)
/-- The number of a day's week. -/
def wn (n Y : Int) : Int := (n - mo Y) / 7 + 1
/-- Has a year weeks? -/
def isw (y : Int) : Prop := -10000 ≤ y ∧ y ≤ 10000
instance (y : Int) : Decidable (isw y) := by unfold isw; infer_instance
def cw (y : Int) : Int := if isw y then 0 else 13
def wkR (y : Int) : Int := if isw y then wk y else 0
def moR (y : Int) : Int := if isw y then mo y else 0
/-- A week's day: the error's number, the day's number. -/
def wdB (y w d : Int) : Prop := w < 1 ∨ wk y < w ∨ d < 1 ∨ 7 < d
instance (y w d : Int) : Decidable (wdB y w d) := by unfold wdB; infer_instance
def wdP (y w d : Int) : Int := mo y + (7 * (w - 1) + d - 1)
def wdF (n : Int) : Prop := n < -4371587 ∨ 2932896 < n
instance (n : Int) : Decidable (wdF n) := by unfold wdF; infer_instance
def wkE (y w d : Int) : Int := if isw y then (if wdB y w d then 1 else if wdF (wdP y w d) then 13 else 0) else 13
def wkN (y w d : Int) : Int := if wkE y w d = 0 then wdP y w d else 0

theorem mo_is (y : Int) : mo y = st y + 3 - (st y + 6) % 7 := by unfold mo wd; omega
theorem mo_bd (y : Int) : st y - 3 ≤ mo y ∧ mo y ≤ st y + 3 := by rw [mo_is]; omega
theorem mo_mod (y : Int) : (mo y + 3) % 7 = 0 := by rw [mo_is]; omega
theorem wk_is (y : Int) : mo (y + 1) = mo y + 7 * wk y := by
  have a := mo_mod y; have b := mo_mod (y + 1); unfold wk; omega
theorem wk_bd (y : Int) : 52 ≤ wk y ∧ wk y ≤ 53 := by
  have a := mo_bd y; have b := mo_bd (y + 1); have c := wk_is y; have s := st_succ y; have d := yd_bd y
  omega
theorem mo_lt {a b : Int} (h : a < b) : mo a + 350 ≤ mo b := by
  have p := mo_bd a; have q := mo_bd b; have s := st_lt h; have d := yd_bd a
  omega
theorem Wk.one {n Y Z : Int} (h : Wk n Y) (k : Wk n Z) : Y = Z := by
  obtain ⟨a, b⟩ := h; obtain ⟨c, d⟩ := k
  rcases (by omega : Y < Z ∨ Z < Y ∨ Y = Z) with g | g | g
  · rcases (by omega : Y + 1 < Z ∨ Y + 1 = Z) with g' | rfl
    · have := mo_lt g'; omega
    · omega
  · rcases (by omega : Z + 1 < Y ∨ Z + 1 = Y) with g' | rfl
    · have := mo_lt g'; omega
    · omega
  · exact g
/-- The year of a day's week lies beside the day's year. -/
theorem Dt.near {n y m d : Int} (D : Dt n y m d) : mo (y - 1) ≤ n ∧ ((Wk n (y - 1) ∧ ¬ mo y ≤ n ∧ ¬ mo (y + 1) ≤ n) ∨ (Wk n y ∧ mo y ≤ n ∧ ¬ mo (y + 1) ≤ n) ∨ (Wk n (y + 1) ∧ mo y ≤ n ∧ mo (y + 1) ≤ n)) := by
  obtain ⟨e1, e2, -, -⟩ := D.ends
  have a := mo_bd (y - 1); have b := mo_bd (y + 1 + 1)
  have s := st_succ (y - 1); have t := st_succ (y + 1); have p := yd_bd (y - 1); have q := yd_bd (y + 1)
  have u := mo_lt (show y < y + 1 by omega)
  rw [show y - 1 + 1 = y by omega] at s
  refine ⟨by omega, ?_⟩
  unfold Wk
  rw [show y - 1 + 1 = y by omega]
  omega
theorem wk_some {n : Int} (h : -4371587 ≤ n) (h' : n ≤ 2932896) : ∃ Y, Wk n Y ∧ -9999 ≤ Y ∧ Y ≤ 9999 := by
  obtain ⟨y, m, d, D⟩ := dt_some h h'
  have key : ∀ Y, Wk n Y → -9999 ≤ Y ∧ Y ≤ 9999 := fun Y g => by
    have m1 : mo (-9999) = -4371587 := by decide
    have m2 : 2932896 < mo 10000 := by decide
    constructor
    · rcases (by omega : Y + 1 < -9999 ∨ Y + 1 = -9999 ∨ -9999 ≤ Y) with c | c | c
      · have := mo_lt c; have := g.2; omega
      · have := g.2; rw [c] at this; omega
      · exact c
    · rcases (by omega : 10000 < Y ∨ Y = 10000 ∨ Y ≤ 9999) with c | rfl | c
      · have := mo_lt c; have := g.1; omega
      · have := g.1; omega
      · exact c
  rcases D.near.2 with ⟨g, _⟩ | ⟨g, _⟩ | ⟨g, _⟩ <;> exact ⟨_, g, key _ g⟩
/-- The Thursday of a day's week lies in the year of its week. -/
theorem thu (n y : Int) : st y ≤ n + (4 - wd n) ↔ mo y ≤ n := by rw [mo_is]; unfold wd; omega
theorem thu_wn {n Y : Int} (h : Wk n Y) : (n + (4 - wd n) - st Y) / 7 + 1 = wn n Y ∧ 0 ≤ n + (4 - wd n) - st Y := by
  have a := h.1
  unfold wn; rw [mo_is] at *; unfold wd; omega
theorem wn_bd {n Y : Int} (h : Wk n Y) : 1 ≤ wn n Y ∧ wn n Y ≤ wk Y := by
  obtain ⟨a, b⟩ := h
  have c := wk_is Y
  unfold wn; omega
theorem wd_in (n : Int) : 1 ≤ wd n ∧ wd n ≤ 7 := by unfold wd; omega
/-- A day is the day of its week. -/
theorem wk_wdP {n Y : Int} (h : Wk n Y) : wdP Y (wn n Y) (wd n) = n := by
  have a := h.1; have m := mo_mod Y
  unfold wdP wn wd; omega
theorem wk_wdE {n Y : Int} (h : Wk n Y) (hy : -9999 ≤ Y ∧ Y ≤ 9999) (h1 : -4371587 ≤ n) (h2 : n ≤ 2932896) : wkE Y (wn n Y) (wd n) = 0 ∧ wkN Y (wn n Y) (wd n) = n := by
  have a := wn_bd h; have b := wd_in n; have p := wk_wdP h
  have e : wkE Y (wn n Y) (wd n) = 0 := by
    unfold wkE
    rw [if_pos (by unfold isw; omega), if_neg (by unfold wdB; omega), p, if_neg (by unfold wdF; omega)]
  exact ⟨e, by unfold wkN; rw [if_pos e, p]⟩
/-- A week's day lies in the weeks of its year, and is its day. -/
theorem wdE_wk {y w d : Int} (h : wkE y w d = 0) : wkN y w d = wdP y w d ∧ Wk (wdP y w d) y ∧ wn (wdP y w d) y = w ∧ wd (wdP y w d) = d ∧ -4371587 ≤ wdP y w d ∧ wdP y w d ≤ 2932896 ∧ isw y ∧ ¬ wdB y w d := by
  have h0 := h
  unfold wkE at h
  split at h
  · next c =>
    split at h
    · cases h
    · next b =>
      split at h
      · cases h
      · next f =>
        have k := wk_is y; have m := mo_mod y
        have b' := b
        unfold wdB at b; unfold wdF at f
        refine ⟨by unfold wkN; rw [if_pos h0], ?_, ?_, ?_, by omega, by omega, c, b'⟩
        · unfold Wk wdP; omega
        · unfold wn wdP; omega
        · unfold wd wdP; omega
  · cases h
theorem wdE_cases (y w d : Int) : wkE y w d = 0 ∨ wkE y w d = 1 ∨ wkE y w d = 13 := by
  unfold wkE; split
  · split
    · exact Or.inr (Or.inl rfl)
    · split
      · exact Or.inr (Or.inr rfl)
      · exact Or.inl rfl
  · exact Or.inr (Or.inr rfl)
theorem mo_in {y : Int} (h : -20000 ≤ y) (h' : y ≤ 20000) : -20000010 ≤ mo y ∧ mo y ≤ 20000010 := by
  have a := mo_bd y; have b := st_bd (y := y) (by omega) (by omega); omega

end Go.Proofs.YtjbbnlcghnjlfaaDoor
