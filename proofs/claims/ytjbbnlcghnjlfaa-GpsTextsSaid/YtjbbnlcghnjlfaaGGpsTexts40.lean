/- Merged: WeekN. -/
import Derived.Test.YtjbbnlcghnjlfaaGGpsTexts31
import Derived.Test.YtjbbnlcghnjlfaaGGpsTexts34
import Derived.Test.YtjbbnlcghnjlfaaGGpsTexts39
namespace Go.Proofs.Ytjbbnlcghnjlfaa
open Go.RowKit
set_option linter.unusedVariables false

/-- A text behind its sign. -/
def sig (l : List UInt8) : Nat := if l.head? = some 45 then 1 else 0
def bd (l : List UInt8) : List UInt8 := l.drop (sig l)
def yl (l : List UInt8) : Nat := lead (bd l)
/-- Has a text the form of a day? -/
def Good (l : List UInt8) : Prop :=
  4 ≤ yl l ∧ yl l ≤ 5 ∧ (bd l).length = yl l + 6 ∧ (bd l)[yl l]? = some 45 ∧ (bd l)[yl l + 1]? = some 87 ∧ 2 ≤ lead ((bd l).drop (yl l + 2)) ∧
    (bd l)[yl l + 4]? = some 45 ∧ 1 ≤ lead ((bd l).drop (yl l + 5)) ∧ ¬ (yl l = 5 ∧ dv ((bd l).take (yl l)) ≤ 9999) ∧ ¬ (sig l = 1 ∧ dv ((bd l).take (yl l)) = 0)
instance (l : List UInt8) : Decidable (Good l) := by unfold Good; infer_instance
/-- Its year, week, weekday. -/
def gY (l : List UInt8) : Int := if sig l = 1 then -((dv ((bd l).take (yl l)) : Nat) : Int) else ((dv ((bd l).take (yl l)) : Nat) : Int)
/-! ### acts of a scanner -/
/-- A byte that must stand: the place, the error behind it. -/
def wmK (l : List UInt8) (b : UInt8) (k : Nat) (e : Int) : Nat := if (rs l k e).head? = some b then k + 1 else k
def wmE (l : List UInt8) (b : UInt8) (k : Nat) (e : Int) : Int := if (rs l k e).head? = some b then e else flE e 2
/-- The year. -/
def yF (l : List UInt8) : Nat := fgK (sig l) (rs l (sig l) 0) 0 4 5
def yN (l : List UInt8) : Int := fgN (rs l (sig l) 0) 0 4 5
def yC (l : List UInt8) : Prop := (yF l = sig l + 5 ∧ yN l ≤ 9999) ∨ (sig l = 1 ∧ yN l = 0)
instance (l : List UInt8) : Decidable (yC l) := by unfold yC; infer_instance
theorem wm_bad {l : List UInt8} {b : UInt8} {k : Nat} {e : Int} (h : e ≠ 0) : wmE l b k e = e := by
  unfold wmE; rw [rs_bad _ _ h, fl_bad _ h]; split <;> rfl
theorem wm_yes {l : List UInt8} {b : UInt8} {k : Nat} (h : l[k]? = some b) : wmE l b k 0 = 0 ∧ wmK l b k 0 = k + 1 := by
  unfold wmE wmK; rw [rs_zero, List.head?_drop, if_pos h, if_pos h]; exact ⟨rfl, rfl⟩
theorem wm_no {l : List UInt8} {b : UInt8} {k : Nat} (h : ¬ l[k]? = some b) : wmE l b k 0 = 2 := by
  unfold wmE; rw [rs_zero, List.head?_drop, if_neg h]; rfl
theorem fg_bad {r : List UInt8} {e a b : Int} (h : e ≠ 0) : fgE r e a b = e := by unfold fgE; rw [if_neg h]
theorem en_bad {l : List UInt8} {k : Nat} {e : Int} (h : e ≠ 0) : enE l k e = e := by unfold enE; rw [if_neg (fun c => h c.1)]

/-! ### what is put -/
end Go.Proofs.Ytjbbnlcghnjlfaa
