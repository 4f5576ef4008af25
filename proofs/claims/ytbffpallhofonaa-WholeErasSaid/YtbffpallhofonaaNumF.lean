/- Sum, Wide: slices of int64 that are only read. -/
import Derived.Test.YtbffpallhofonaaNumC
import Derived.LoopTactic
import Derived.Below
import Derived.BigQuiet
import Derived.Deep.QuietTactic
import Derived.Outline
namespace Go.Proofs.Ytbffpallhofonaa
open Go.RowKit

/-- The slice at A reads as the numbers zs. -/
def Ri (w : World) (A : Option Addr) (zs : List Int) : Prop :=
  (∀ z ∈ zs, fits z) ∧ (zs = [] ∨ ∃ b off : Nat, A = some ⟨b, off, none⟩ ∧ b < w.heap.size ∧ ∀ j, j < zs.length → w.cell? ⟨b, off + j, none⟩ = some (.int .i64 (zs.getD j 0)))
theorem Ri.below {w w' : World} {A : Option Addr} {zs : List Int} (h : Ri w A zs) (hb : Below w.heap.size w w') : Ri w' A zs := by
  refine ⟨h.1, h.2.imp id ?_⟩
  rintro ⟨b, off, hA, hlt, hc⟩
  exact ⟨b, off, hA, Nat.lt_of_lt_of_le hlt hb.size, fun j hj => (hb.cell (p := ⟨b, off + j, none⟩) hlt).trans (hc j hj)⟩
theorem Ri.cell {w : World} {A : Option Addr} {zs : List Int} (h : Ri w A zs) {i : Nat} (hi : i < zs.length) : ∃ b off, A = some ⟨b, off, none⟩ ∧ b < w.heap.size ∧ w.cell? ⟨b, off + i, none⟩ = some (.int .i64 (zs.getD i 0)) := by
  rcases h.2 with rfl | ⟨b, off, hA, hlt, hc⟩
  · simp at hi
  · exact ⟨b, off, hA, hlt, hc i hi⟩
theorem Ri.fit {w : World} {A : Option Addr} {zs : List Int} (h : Ri w A zs) (i : Nat) : fits (zs.getD i 0) := by
  by_cases hi : i < zs.length
  · rw [List.getD_eq_getElem?_getD, List.getElem?_eq_getElem hi]; exact h.1 _ (List.getElem_mem hi)
  · rw [List.getD_eq_getElem?_getD, List.getElem?_eq_none (by omega)]; decide

/-- Numbers added, one by one; none where a sum doesn't fit. -/
def run : Int → List Int → Option Int
  | x, [] => some x
  | x, z :: r => if fits (x + z) then run (x + z) r else none
theorem run_append (x : Int) (l r : List Int) : run x (l ++ r) = (run x l).bind (run · r) := by
  induction l generalizing x with
  | nil => rfl
  | cons z l ih =>
    simp only [List.cons_append, run]
    split
    · exact ih _
    · rfl
theorem take_succ {zs : List Int} {i : Nat} (h : i < zs.length) : zs.take (i + 1) = zs.take i ++ [zs.getD i 0] := by
  rw [List.take_succ_eq_append_getElem h, List.getD_eq_getElem?_getD, List.getElem?_eq_getElem h]; rfl
theorem run_step {zs : List Int} {i : Nat} {x : Int} (h : i < zs.length) (hr : run 0 (zs.take i) = some x) : run 0 (zs.take (i + 1)) = if fits (x + zs.getD i 0) then some (x + zs.getD i 0) else none := by
  rw [take_succ h, run_append, hr]; rfl
theorem run_stop {zs : List Int} {i : Nat} (hr : run 0 (zs.take i) = none) : run 0 zs = none := by
  have := run_append 0 (zs.take i) (zs.drop i)
  rw [List.take_append_drop, hr] at this
  exact this
/-- Sum's two answers. -/
def sumV (zs : List Int) : Int := (run 0 zs).getD 0
def sumE (zs : List Int) : Int := if (run 0 zs).isSome then 0 else 5

end Go.Proofs.Ytbffpallhofonaa
