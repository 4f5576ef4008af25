/- Package day: what needs no search: Leap, isYear, start, end, Days, Month, YearDay, FromYearDay, Start, Of, First, Last, Weekday. -/
import Derived.Test.YtlngnllcjfbicaaDoorDayM
import Derived.Test.YtlngnllcjfbicaaDoorErr
import Derived.Lib.LaidTab
import Derived.Lib.SmallJoins
namespace Go.Proofs.YtlngnllcjfbicaaDoor
open Go.RowKit
set_option linter.unusedVariables false

/-- The table of months' ends. -/
def Ends (w : World) : Prop := Lib.TabIs Tryd.prog w "horologe/day.ends" .i64 endsL
theorem gends : Tryd.prog.globalNamed "horologe/day.ends" = some 0 := by kernel_rfl
theorem Ends.below {w w' : World} (h : Ends w) (hb : Below w.heap.size w w') : Ends w' := Joins.tab_stays gends h hb (Nat.le_refl _)
theorem Ends.at {w : World} (h : Ends w) {m : Int} (hm : 0 ≤ m) (hm' : m ≤ 12) : w.cell? ⟨0, m.toNat, none⟩ = some (.int .i64 (e0 m)) :=
  Lib.TabIs.cell h gends m.toNat (by show m.toNat < 13; omega)

theorem leap_any (y : Int) (w : World) : Calls Tryd.prog 57 #[.int .i64 y] w fun e w' => e = .returned (.bool (lp y)) ∧ w = w' := by
  have h4 := tm_zero y 4; have h100 := tm_zero y 100; have h400 := tm_zero y 400
  by_cases a : y % 4 = 0
  · rw [decide_eq_true a] at h4
    by_cases b : y % 100 = 0
    · rw [decide_eq_true b] at h100
      have h100' : (y.tmod 100 != 0) = false := by rw [bne, h100]; rfl
      by_cases c : y % 400 = 0
      · rw [decide_eq_true c] at h400
        rw [lp_yes.2 ⟨a, Or.inr c⟩]
        clear a b c
        go_enter Tryd.func57, Tryd.ntmps57
        go_wp2
        go_ret
        exact ⟨rfl, rfl⟩
      · rw [decide_eq_false c] at h400
        rw [lp_no.2 (by omega)]
        clear a b c
        go_enter Tryd.func57, Tryd.ntmps57
        go_wp2
        go_ret
        exact ⟨rfl, rfl⟩
    · rw [decide_eq_false b] at h100
      have h100' : (y.tmod 100 != 0) = true := by rw [bne, h100]; rfl
      rw [lp_yes.2 ⟨a, Or.inl b⟩]
      clear a b h400
      go_enter Tryd.func57, Tryd.ntmps57
      go_wp2
      go_ret
      exact ⟨rfl, rfl⟩
  · rw [decide_eq_false a] at h4
    rw [lp_no.2 (by omega)]
    clear a h100 h400
    go_enter Tryd.func57, Tryd.ntmps57
    go_wp2
    go_ret
    exact ⟨rfl, rfl⟩

theorem isyear_any (y : Int) (w : World) : Calls Tryd.prog 55 #[.int .i64 y] w fun e w' => e = .returned (.bool (decide (isy y))) ∧ w = w' := by
  rcases (by omega : (-9999 ≤ y ∧ y ≤ 9999) ∨ (-9999 ≤ y ∧ ¬ y ≤ 9999) ∨ ¬ -9999 ≤ y) with ⟨a, b⟩ | ⟨a, b⟩ | a
  · rw [decide_eq_true (p := isy y) ⟨a, b⟩]
    go_enter Tryd.func55, Tryd.ntmps55
    go_wp2
    go_ret
    exact ⟨rfl, rfl⟩
  · rw [decide_eq_false (p := isy y) (fun h => b h.2)]
    go_enter Tryd.func55, Tryd.ntmps55
    go_wp2
    go_ret
    exact ⟨rfl, rfl⟩
  · rw [decide_eq_false (p := isy y) (fun h => a h.1)]
    go_enter Tryd.func55, Tryd.ntmps55
    go_wp2
    go_ret
    exact ⟨rfl, rfl⟩

theorem start_any (y : Int) (w : World) (h : -20000 ≤ y) (h' : y ≤ 20001) : Calls Tryd.prog 52 #[.int .i64 y] w fun e w' => e = .returned (.int .i64 (st y)) ∧ w = w' := by
  have e : st y = -8024378 + 365 * (y + 20000) + ((y + 20000 + 3) / 4 - (y + 20000 + 99) / 100 + (y + 20000 + 399) / 400) := by unfold st; omega
  have E := Lib.hid e; clear e
  go_enter Tryd.func52, Tryd.ntmps52
  go_wp2
  go_ret
  exact ⟨ret1_eq (int_eq E.out.symm), rfl⟩

theorem end_any (y m : Int) (w : World) (h : 0 ≤ m) (h' : m ≤ 12) (he : Ends w) : Calls Tryd.prog 54 #[.int .i64 y, .int .i64 m] w fun e w' => e = .returned (.int .i64 (em y m)) ∧ w = w' := by
  have hc := he.at h h'
  clear he
  obtain ⟨k, rfl⟩ : ∃ k : Nat, m = k := ⟨m.toNat, by omega⟩
  have hk : k < 13 := by omega
  have hb : 0 ≤ e0 k ∧ e0 k ≤ 365 := by
    unfold e0
    rcases (by omega : (k : Int) = 0 ∨ 1 ≤ (k : Int)) with h0 | h1
    · rw [h0]; decide
    · rcases twelve h1 h' with g | g | g | g | g | g | g | g | g | g | g | g <;> (rw [g]; decide)
  rw [show ((k : Int)).toNat = k from Int.toNat_natCast k] at hc
  have E : Hid (em y k = if 2 ≤ (k : Int) ∧ lp y = true then e0 k + 1 else e0 k) := Lib.hid rfl
  generalize e0 k = z at *
  generalize em y k = r at *
  by_cases a : 2 ≤ (k : Int)
  · cases hl : lp y with
    | true =>
      have E2 : Hid (r = z + 1) := Lib.hid (by rw [E.out, if_pos ⟨a, hl⟩])
      clear E
      have hL := leap_any y w
      rw [hl] at hL
      clear hl
      go_enter Tryd.func54, Tryd.ntmps54
      go_wp2_with (go_at_call 57; refine hL.mono ?_; rintro e w' ⟨rfl, rfl⟩)
      go_ret
      exact ⟨ret1_eq (int_eq E2.out.symm), rfl⟩
    | false =>
      have E2 : Hid (r = z) := Lib.hid (by rw [E.out, if_neg (by rw [hl]; simp)])
      clear E
      have hL := leap_any y w
      rw [hl] at hL
      clear hl
      go_enter Tryd.func54, Tryd.ntmps54
      go_wp2_with (go_at_call 57; refine hL.mono ?_; rintro e w' ⟨rfl, rfl⟩)
      go_ret
      exact ⟨ret1_eq (int_eq E2.out.symm), rfl⟩
  · have E2 : Hid (r = z) := Lib.hid (by rw [E.out, if_neg (by omega)])
    clear E
    go_enter Tryd.func54, Tryd.ntmps54
    go_wp2
    go_ret
    exact ⟨ret1_eq (int_eq E2.out.symm), rfl⟩

end Go.Proofs.YtlngnllcjfbicaaDoor
