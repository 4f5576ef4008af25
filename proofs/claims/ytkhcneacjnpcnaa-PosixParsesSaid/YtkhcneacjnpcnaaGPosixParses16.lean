/- Merged: Blk, RulA. -/
import Derived.Test.YtkhcneacjnpcnaaGPosixParses2
import Derived.Outline
import Derived.Deep.Draws
import Derived.Laws.Rows
import Derived.Test.YtkhcneacjnpcnaaGPosixParses12
import Derived.Laws.Concat
namespace Go.Proofs.Ytkhcneacjnpcnaa
open Go.RowKit
set_option linter.unusedVariables false

theorem bk_cell {w : World} {g : Nat} {cs : Array Value} {t : TypeId} (h : w.heap[g]? = some (.cells cs t (0, 0))) (i : Nat) : w.cell? ⟨g, i, none⟩ = cs[i]? := by simp [World.cell?, h]
theorem bk_free {w : World} {g : Nat} {cs : Array Value} {t : TypeId} (h : w.heap[g]? = some (.cells cs t (0, 0))) (i : Nat) : w.frozen? ⟨g, i, none⟩ = false := by simp [World.frozen?, h]
theorem bk_lt {w : World} {g : Nat} {o : Obj} (h : w.heap[g]? = some o) : g < w.heap.size := by
  rcases Nat.lt_or_ge g w.heap.size with k | k
  · exact k
  · rw [Array.getElem?_eq_none k] at h; cases h
theorem bk_set {w : World} {g : Nat} {cs : Array Value} {t : TypeId} (h : w.heap[g]? = some (.cells cs t (0, 0))) (i : Nat) (u : Value) : (w.setCell ⟨g, i, none⟩ u).heap[g]? = some (.cells (cs.setIfInBounds i u) t (0, 0)) := by
  simp [World.setCell, Array.getElem?_modify, h]

end Go.Proofs.Ytkhcneacjnpcnaa

namespace Go.Proofs.Ytkhcneacjnpcnaa
open Go.RowKit
set_option linter.unusedVariables false
set_option linter.unusedSimpArgs false

theorem bel16 (w : World) (o : Obj) : Below w.heap.size w (w.alloc o) := (Below.refl _ w).alloc (Nat.le_refl _) _
/-- A rule's block. -/
def Rk (w : World) (p : Nat) (r : Ru) : Prop := w.heap[p]? = some (.cells r.cells 24 (0, 0))
theorem Rk.lt {w : World} {p : Nat} {r : Ru} (h : Rk w p r) : p < w.heap.size := bk_lt h
theorem Rk.below {w w' : World} {p B : Nat} {r : Ru} (h : Rk w p r) (hb : Below B w w') (hB : p < B) : Rk w' p r := (hb.block p hB).trans h
theorem Rk.keep {w w' : World} {p : Nat} {r : Ru} (h : Rk w p r) (hb : Below w.heap.size w w') : Rk w' p r := h.below hb h.lt
theorem Rk.all {w : World} {p : Nat} {r : Ru} (h : Rk w p r) :
    w.cell? ⟨p, 0, none⟩ = some (.int .i64 r.K) ∧ w.cell? ⟨p, 1, none⟩ = some (.int .i64 r.M) ∧ w.cell? ⟨p, 2, none⟩ = some (.int .i64 r.W) ∧ w.cell? ⟨p, 3, none⟩ = some (.int .i64 r.D) ∧ w.cell? ⟨p, 4, none⟩ = some (.int .i64 r.T) :=
  ⟨bk_cell h 0, bk_cell h 1, bk_cell h 2, bk_cell h 3, bk_cell h 4⟩
theorem rk_new (w : World) (r : Ru) : Rk (w.alloc (.cells r.cells 24)) w.heap.size r := heap_alloc_new w _

theorem wi_any (n a b : Int) (w : World) : Calls Try.prog 47 #[.int .i64 n, .int .i64 a, .int .i64 b] w fun e w' => e = .returned (.bool (wiB n a b)) ∧ w = w' := by
  unfold wiB
  cases h : decide (a ≤ n) with
  | false =>
    rw [Bool.false_and]
    go_enter Try.func47, Try.ntmps47
    go_wp2
    go_ret
    exact ⟨rfl, rfl⟩
  | true =>
    rw [Bool.true_and]
    go_enter Try.func47, Try.ntmps47
    go_wp2
    go_ret
    exact ⟨rfl, rfl⟩

/-- The ways of hasDay. -/
def hdB (r : Ru) : Bool := decide (hdP r)
theorem hd_is {r : Ru} {b : Bool} (h : b = true ↔ hdP r) : hdB r = b := by
  unfold hdB
  cases b with
  | true => exact decide_eq_true (h.1 rfl)
  | false => exact decide_eq_false fun c => by have := h.2 c; cases this
theorem hd_three {r : Ru} (k : r.K = 3) : (wiB r.M 1 12 = false ∧ hdB r = false) ∨ (wiB r.M 1 12 = true ∧ wiB r.W 1 5 = false ∧ hdB r = false) ∨ (wiB r.M 1 12 = true ∧ wiB r.W 1 5 = true ∧ hdB r = wiB r.D 0 6) := by
  have u : hdP r ↔ 1 ≤ r.M ∧ r.M ≤ 12 ∧ 1 ≤ r.W ∧ r.W ≤ 5 ∧ 0 ≤ r.D ∧ r.D ≤ 6 := by unfold hdP; rw [if_pos k]
  cases a : wiB r.M 1 12 with
  | false => exact .inl ⟨rfl, decide_eq_false (by rw [u]; have := wiB_no.1 a; omega)⟩
  | true =>
    have a' := wiB_yes.1 a
    cases b : wiB r.W 1 5 with
    | false => exact .inr (.inl ⟨rfl, rfl, decide_eq_false (by rw [u]; have := wiB_no.1 b; omega)⟩)
    | true =>
      have b' := wiB_yes.1 b
      exact .inr (.inr ⟨rfl, rfl, hd_is (by rw [u, wiB_yes]; omega)⟩)
theorem hd_else {r : Ru} (k : r.K ≠ 3) : ((r.M == 0) = false ∧ hdB r = false) ∨ ((r.M == 0) = true ∧ (r.W == 0) = false ∧ hdB r = false) ∨ ((r.M == 0) = true ∧ (r.W == 0) = true ∧ hdB r = wiB r.D (if r.K = 1 then 1 else 0) 365) := by
  have u : hdP r ↔ r.M = 0 ∧ r.W = 0 ∧ (if r.K = 1 then 1 else 0) ≤ r.D ∧ r.D ≤ 365 := by unfold hdP; rw [if_neg k]
  by_cases a : r.M = 0
  · by_cases b : r.W = 0
    · exact .inr (.inr ⟨beq_iff_eq.2 a, beq_iff_eq.2 b, hd_is (by rw [u, wiB_yes]; omega)⟩)
    · exact .inr (.inl ⟨beq_iff_eq.2 a, beq_eq_false_iff_ne.2 b, decide_eq_false (by rw [u]; omega)⟩)
  · exact .inl ⟨beq_eq_false_iff_ne.2 a, decide_eq_false (by rw [u]; omega)⟩

set_option maxHeartbeats 2000000 in
theorem hasday_any (r : Ru) (w : World) : Calls Try.prog 46 #[.agg r.cells] w fun e w' => e = .returned (.bool (hdB r)) ∧ Below w.heap.size w w' := by
  obtain ⟨W0, hW0⟩ : ∃ W0, W0 = w.alloc (.cells r.cells 24) := ⟨_, rfl⟩
  have B0 : Hid (Below w.heap.size w W0) := Lib.hid (by rw [hW0]; exact bel16 w _)
  have L0 : Rk W0 w.heap.size r := by rw [hW0]; exact rk_new _ _
  obtain ⟨c0, c1, c2, c3, c4⟩ := L0.all
  have HW := Lib.hid (fun n a b w => wi_any n a b w)
  have h3 := @hd_three r
  have h4 := @hd_else r
  clear L0
  generalize hdB r = P at *
  obtain ⟨K, M, W, D, T⟩ := r
  simp only at h3 h4 c0 c1 c2 c3 c4
  by_cases k : K = 3
  · have t1 : (K == 3) = true := beq_iff_eq.2 k
    have h5 := h3 k
    clear h3 h4 k
    rcases h5 with ⟨a, rfl⟩ | ⟨a, b, rfl⟩ | ⟨a, b, rfl⟩
    all_goals
      go_enter Try.func46, Try.ntmps46
      go_upto_region 1 with fail
      rw [← hW0]; clear hW0
      go_wp2_with (go_at_call 47; refine (HW.out _ _ _ _).mono ?_; rintro e w' ⟨rfl, rfl⟩)
      go_ret
      exact ⟨rfl, B0.out⟩
  · have t1 : (K == 3) = false := beq_eq_false_iff_ne.2 k
    have h5 := h4 k
    clear h3 h4 k
    by_cases k : K = 1
    all_goals (first | rw [if_pos k] at h5 | rw [if_neg k] at h5)
    all_goals (first | have t2 : (K == 1) = true := beq_iff_eq.2 k | have t2 : (K == 1) = false := beq_eq_false_iff_ne.2 k)
    all_goals
      clear k
      rcases h5 with ⟨a, rfl⟩ | ⟨a, b, rfl⟩ | ⟨a, b, rfl⟩
    all_goals
      go_enter Try.func46, Try.ntmps46
      go_upto_region 1 with fail
      rw [← hW0]; clear hW0
      go_wp2_with (go_at_call 47; refine (HW.out _ _ _ _).mono ?_; rintro e w' ⟨rfl, rfl⟩)
      go_ret
      exact ⟨rfl, B0.out⟩
end Go.Proofs.Ytkhcneacjnpcnaa
