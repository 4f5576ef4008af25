/- Merged: NumF. -/
import Derived.Test.YtjbbnlcghnjlfaaDoorGGpsWeeks7
import Derived.Outline
import Derived.LoopTactic
import Derived.Below
import Derived.BigQuiet
import Derived.Deep.QuietTactic
namespace Go.Proofs.YtjbbnlcghnjlfaaDoor
open Go.RowKit

/-- The slice at A reads as the numbers zs. -/
def Ri (w : World) (A : Option Addr) (zs : List Int) : Prop :=
  (∀ z ∈ zs, fits z) ∧ (zs = [] ∨ ∃ b off : Nat, A = some ⟨b, off, none⟩ ∧ b < w.heap.size ∧ ∀ j, j < zs.length → w.cell? ⟨b, off + j, none⟩ = some (.int .i64 (zs.getD j 0)))
theorem Ri.below {w w' : World} {A : Option Addr} {zs : List Int} (h : Ri w A zs) (hb : Below w.heap.size w w') : Ri w' A zs := by
  refine ⟨h.1, h.2.imp id ?_⟩
  rintro ⟨b, off, hA, hlt, hc⟩
  exact ⟨b, off, hA, Nat.lt_of_lt_of_le hlt hb.size, fun j hj => (hb.cell (p := ⟨b, off + j, none⟩) hlt).trans (hc j hj)⟩
theorem Ri.cell {w : World} {A : Option Addr} {zs : List Int} (h : Ri w A zs) {i : Nat} (hi : i < zs.length) : ∃ b off, A = some ⟨b, off, none⟩ ∧ b < w.heap.size ∧ w.cell? ⟨b, off + i, none⟩ = some (.int .i64 (zs.getD i 0)) := by
  rcases h.2 with rfl | ⟨b, off, hA, hlt, hc⟩
  · simp at hi
  · exact ⟨b, off, hA, hlt, hc i hi⟩
theorem Ri.fit {w : World} {A : Option Addr} {zs : List Int} (h : Ri w A zs) (i : Nat) : fits (zs.getD i 0) := by
  by_cases hi : i < zs.length
  · rw [List.getD_eq_getElem?_getD, List.getElem?_eq_getElem hi]; exact h.1 _ (List.getElem_mem hi)
  · rw [List.getD_eq_getElem?_getD, List.getElem?_eq_none (by omega)]; decide

/-- Numbers added, one by one; none where a sum doesn't fit. -/
def run : Int → List Int → Option Int
  | x, [] => some x
  | x, z :: r => if fits (x + z) then run (x + z) r else none
theorem run_append (x : Int) (l r : List Int) : run x (l ++ r) = (run x l).bind (run · r) := by
  induction l generalizing x with
  | nil => rfl
  | cons z l ih =>
    simp only [List.cons_append, run]
    split
    · exact ih _
    · rfl
theorem take_succ {zs : List Int} {i : Nat} (h : i < zs.length) : zs.take (i + 1) = zs.take i ++ [zs.getD i 0] := by
  rw [List.take_succ_eq_append_getElem h, List.getD_eq_getElem?_getD, List.getElem?_eq_getElem h]; rfl
theorem run_step {zs : List Int} {i : Nat} {x : Int} (h : i < zs.length) (hr : run 0 (zs.take i) = some x) : run 0 (zs.take (i + 1)) = if fits (x + zs.getD i 0) then some (x + zs.getD i 0) else none := by
  rw [take_succ h, run_append, hr]; rfl
theorem run_stop {zs : List Int} {i : Nat} (hr : run 0 (zs.take i) = none) : run 0 zs = none := by
  have := run_append 0 (zs.take i) (zs.drop i)
  rw [List.take_append_drop, hr] at this
  exact this
/-- Sum's two answers. -/
def sumV (zs : List Int) : Int := (run 0 zs).getD 0
def sumE (zs : List Int) : Int := if (run 0 zs).isSome then 0 else 5

set_option maxHeartbeats 800000 in
theorem sum_any (A : Option Addr) (zs : List Int) (c : Nat) (w : World) (h : Ri w A zs) (hl : zs.length ≤ 100000) :
    Calls Tryd.prog 28 #[.slice A zs.length c] w fun e w' => e = .returned (.tuple #[.int .i64 (sumV zs), ev (sumE zs)]) ∧ w = w' := by
  have q0 := fun op t x k => guard_ev op t w x k
  have q2 := fun k => neq_ev w k
  go_enter Tryd.func28, Tryd.ntmps28
  go_wp2
  go_loop [4, 11] (fun s t => ∃ (i : Nat) (x : Int), t = .int .i64 i ∧ s = .int .i64 x ∧ i ≤ zs.length ∧ run 0 (zs.take i) = some x ∧ fits x) (fun _ t => zs.length - (intOf t).toNat)
  case atStart => exact ⟨0, 0, rfl, rfl, by omega, by simp [run], by decide⟩
  case round =>
    obtain ⟨i, x, rfl, rfl, hi, hr, hx⟩ := hrel
    have HR := Lib.hid hr; have HX := Lib.hid hx; clear hr hx
    by_cases hlt : i < zs.length
    · obtain ⟨b, off, rfl, hbl, hcell⟩ := h.cell hlt
      obtain ⟨z, hg⟩ : ∃ z, z = zs.getD i 0 := ⟨_, rfl⟩
      have hz : Hid (fits z) := by rw [hg]; exact h.fit i
      have hst := run_step hlt HR.out
      rw [← hg] at hcell hst
      have HS := Lib.hid hst; clear hst hg
      by_cases hf : fits (x + z)
      · have h1 : (bad (x + z) != 0) = false := by rw [bad_fit hf]; rfl
        have hs := Lib.hid (sm_fit hf)
        have HF := Lib.hid hf; clear hf
        go_wp2_with fail
        refine (add_any _ _ _ HX.out hz.out).mono ?_
        rintro e w' ⟨rfl, rfl⟩
        go_wp2_with fail
        go_round
        case rel => exact ⟨i + 1, x + z, by go_num, int_eq hs.out, hlt, by rw [HS.out, if_pos HF.out], HF.out⟩
        case measure => simp [intOf]; omega
      · have h1 : (bad (x + z) != 0) = true := by rw [bad_no hf]; rfl
        have hb5 := Lib.hid (bad_no hf)
        have HN : Hid (run 0 zs = none) := run_stop (i := i + 1) (by rw [HS.out, if_neg hf])
        clear hf
        go_wp2_with fail
        refine (add_any _ _ _ HX.out hz.out).mono ?_
        rintro e w' ⟨rfl, rfl⟩
        go_wp2_with fail
        go_ret2
        exact ⟨ret2_eq (int_eq (by unfold sumV; rw [HN.out]; rfl)) (by unfold sumE; rw [HN.out]; exact congrArg ev hb5.out), rfl⟩
    · have he : zs.take i = zs := List.take_of_length_le (by omega)
      have HE := Lib.hid he; clear he
      go_wp2_with fail
      go_ret2
      have e := HR.out
      rw [HE.out] at e
      exact ⟨ret2_eq (int_eq (by unfold sumV; rw [e]; rfl)) (by unfold sumE; rw [e]; rfl), rfl⟩

end Go.Proofs.YtjbbnlcghnjlfaaDoor
