/- Package leap: Same. -/
import Derived.Test.YtaahfkkcjfpieaaDoorLeapE
namespace Go.Proofs.YtaahfkkcjfpieaaDoor
open Go.RowKit
set_option linter.unusedVariables false
set_option linter.unusedSimpArgs false

theorem same_nil (w : World) : Calls Tryd.prog 28 #[.pointer none, .pointer none] w fun x w' => x = .returned (.bool true) ∧ w = w' := by
  go_enter Tryd.func28, Tryd.ntmps28
  go_wp2
  go_ret
  exact ⟨rfl, rfl⟩
theorem same_left (g : Nat) (w : World) : Calls Tryd.prog 28 #[.pointer (some ⟨g, 0, none⟩), .pointer none] w fun x w' => x = .returned (.bool false) ∧ w = w' := by
  go_enter Tryd.func28, Tryd.ntmps28
  go_wp2
  go_ret
  exact ⟨rfl, rfl⟩
theorem eq_np (W : World) (g : Nat) : (binOp .eql 26 (.pointer none) (.pointer (some ⟨g, 0, none⟩))).run Tryd.prog W = .ok (.bool false) W := by kernel_rfl
theorem same_right (g : Nat) (w : World) : Calls Tryd.prog 28 #[.pointer none, .pointer (some ⟨g, 0, none⟩)] w fun x w' => x = .returned (.bool false) ∧ w = w' := by
  have q := fun W => eq_np W g
  go_enter Tryd.func28, Tryd.ntmps28
  go_wp2
  go_ret
  exact ⟨rfl, rfl⟩
/-- Are two tables the same? -/
noncomputable def smB (L : List Rw) (u e : Int) (M : List Rw) (x y : Int) : Bool := (u == x && e == y) && eqL L M
set_option maxHeartbeats 2000000 in
theorem same_any {lo lo' : Nat} {w : World} {g h : Nat} {L M : List Rw} {u e x y : Int} (ha : Tb lo w g L u e) (hb : Tb lo' w h M x y) (hL : L.length ≤ 256) (hM : M.length ≤ 256) :
    Calls Tryd.prog 28 #[.pointer (some ⟨g, 0, none⟩), .pointer (some ⟨h, 0, none⟩)] w fun r w' => r = .returned (.bool (smB L u e M x y)) ∧ Below w.heap.size w w' := by
  obtain ⟨-, A, c, a1, a2, -, -⟩ := ha
  obtain ⟨-, A', c', b1, b2, -, -⟩ := hb
  have c0 : w.cell? ⟨g, 0, none⟩ = some (.slice A L.length c) := bk_cell a1 0
  have c1 : w.cell? ⟨g, 1, none⟩ = some (.int .i64 u) := bk_cell a1 1
  have c2 : w.cell? ⟨g, 2, none⟩ = some (.int .i64 e) := bk_cell a1 2
  have d0 : w.cell? ⟨h, 0, none⟩ = some (.slice A' M.length c') := bk_cell b1 0
  have d1 : w.cell? ⟨h, 1, none⟩ = some (.int .i64 x) := bk_cell b1 1
  have d2 : w.cell? ⟨h, 2, none⟩ = some (.int .i64 y) := bk_cell b1 2
  have hE := fun q => equal_any A A' c c' L M (w.drewN q) (by omega) (by omega) a2 b2
  have HE := Lib.hid hE
  clear a1 a2 b1 b2 hE
  unfold smB
  generalize eqL L M = t at *
  generalize L.length = N at *
  generalize M.length = N' at *
  by_cases h1 : u = x
  · have t1 : (u == x) = true := by simpa using h1
    by_cases h2 : e = y
    · have t2 : (e == y) = true := by simpa using h2
      rw [t1, t2]
      go_enter Tryd.func28, Tryd.ntmps28
      go_wp2
      go_quiet ((go_at_call 37; exact Calls.quiet_of (HE.out _)))
      go_wp2
      go_ret
      exact ⟨rfl, drewN_below _ _ _⟩
    · have t2 : (e == y) = false := by simpa using h2
      rw [t1, t2]
      go_enter Tryd.func28, Tryd.ntmps28
      go_wp2
      go_quiet (fail)
      go_wp2
      go_ret
      exact ⟨rfl, drewN_below _ _ _⟩
  · have t1 : (u == x) = false := by simpa using h1
    rw [t1]
    go_enter Tryd.func28, Tryd.ntmps28
    go_wp2
    go_quiet (fail)
    go_wp2
    go_ret
    exact ⟨rfl, drewN_below _ _ _⟩

end Go.Proofs.YtaahfkkcjfpieaaDoor
