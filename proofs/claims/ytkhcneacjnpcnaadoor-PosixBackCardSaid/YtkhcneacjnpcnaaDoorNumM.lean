/- Plain numbers: what fits 64 bits, quotients rounded down. No walk stands here. -/
import GoSem.Claim
import Derived.RowKit
import Derived.IntWalk
namespace Go.Proofs.YtkhcneacjnpcnaaDoor
open Go.RowKit

/-- Does a number fit 64 bits? -/
def fits (z : Int) : Prop := -9223372036854775808 ≤ z ∧ z ≤ 9223372036854775807
instance (z : Int) : Decidable (fits z) := by unfold fits; infer_instance
/-- The number, if it fits; else 0. -/
def sm (z : Int) : Int := if fits z then z else 0
/-- The error's number: 0, or 5 (over). -/
def bad (z : Int) : Int := if fits z then 0 else 5
/-- An error's value, by its number. -/
def ev (k : Int) : Value := if k = 0 then .nilIface else .iface 35 (.int .i64 k)

theorem ev_zero : ev 0 = .nilIface := rfl
theorem ev_pos {k : Int} (h : 0 < k) : ev k = .iface 35 (.int .i64 k) := by unfold ev; rw [if_neg (by omega)]
theorem sm_fit {z : Int} (h : fits z) : sm z = z := if_pos h
theorem sm_no {z : Int} (h : ¬ fits z) : sm z = 0 := if_neg h
theorem bad_fit {z : Int} (h : fits z) : bad z = 0 := if_pos h
theorem bad_no {z : Int} (h : ¬ fits z) : bad z = 5 := if_neg h
theorem sm_fits (z : Int) : fits (sm z) := by unfold sm; split; assumption; decide
theorem fits_sm (z : Int) : -9223372036854775808 ≤ sm z ∧ sm z ≤ 9223372036854775807 := sm_fits z
theorem wf_fits {a : Int} (h : (Lit.int .i64 a).wf = true) : -9223372036854775808 ≤ a ∧ a ≤ 9223372036854775807 := by
  simp [Lit.wf, IntKind.min, IntKind.max, IntKind.signed, IntKind.bits] at h; omega

theorem ret2_eq {x x' y y' : Value} (h : x = x') (k : y = y') : Ending.returned (.tuple #[x, y]) = Ending.returned (.tuple #[x', y']) := by rw [h, k]
theorem ret3_eq {x x' y y' z z' : Value} (h : x = x') (k : y = y') (l : z = z') : Ending.returned (.tuple #[x, y, z]) = Ending.returned (.tuple #[x', y', z']) := by rw [h, k, l]
theorem int_eq {k : IntKind} {a b : Int} (h : a = b) : Value.int k a = Value.int k b := by rw [h]
theorem bool_eq {a b : Bool} (h : a = b) : Value.bool a = Value.bool b := by rw [h]
theorem ret1_eq {x x' : Value} (h : x = x') : Ending.returned x = Ending.returned x' := by rw [h]

/-! products -/
theorem mul_ok {a b : Int} (hb : b ≠ 0) : (a * b).tdiv b = a := Int.mul_tdiv_cancel a hb
theorem mul_over {a b : Int} (hb0 : b ≠ 0) (hb : -9223372036854775808 ≤ b ∧ b ≤ 9223372036854775807) (h : ¬ fits (a * b)) : (wrap64 (a * b)).tdiv b ≠ a := by
  intro he
  have e := Int.tmod_add_mul_tdiv (wrap64 (a * b)) b
  rw [he] at e
  have hlt : ((wrap64 (a * b)).tmod b).natAbs < b.natAbs := by rw [Int.natAbs_tmod]; exact Nat.mod_lt _ (by omega)
  have hc : b * a = a * b := Int.mul_comm b a
  rw [hc] at e
  generalize a * b = p at *
  generalize hr : (wrap64 p).tmod b = r at *
  unfold fits at h
  unfold wrap64 at e
  omega

/-! quotients -/
theorem fdm (a b : Int) : b * a.fdiv b + a.fmod b = a := Int.mul_fdiv_add_fmod a b
theorem fmod_pos {a b : Int} (hb : 0 < b) : 0 ≤ a.fmod b ∧ a.fmod b < b := ⟨Int.fmod_nonneg_of_pos a hb, Int.fmod_lt_of_pos a hb⟩
theorem fmod_negb {a b : Int} (hb : b < 0) : b < a.fmod b ∧ a.fmod b ≤ 0 := by
  have h := Int.neg_fmod_neg (a := -a) (b := -b)
  have := @fmod_pos (-a) (-b) (by omega)
  simp only [Int.neg_neg] at h
  omega
/-- A number has one quotient and one rest. -/
theorem div_one {b q r q' r' : Int} (h : b * q + r = b * q' + r') (hr : (0 < b ∧ 0 ≤ r ∧ r < b) ∨ (b < 0 ∧ b < r ∧ r ≤ 0))
    (hr' : (0 < b ∧ 0 ≤ r' ∧ r' < b) ∨ (b < 0 ∧ b < r' ∧ r' ≤ 0)) : q = q' ∧ r = r' := by
  have e : b * (q - q') = r' - r := by rw [Int.mul_sub]; omega
  have hq : q - q' = 0 := by
    rcases Int.lt_trichotomy (q - q') 0 with h1 | h1 | h1
    · exfalso
      rcases hr with ⟨hb, _, _⟩ | ⟨hb, _, _⟩
      · have : b * (q - q') ≤ b * (-1) := Int.mul_le_mul_of_nonneg_left (by omega) (by omega)
        omega
      · have : b * (-1) ≤ b * (q - q') := Int.mul_le_mul_of_nonpos_left (by omega) (by omega)
        omega
    · exact h1
    · exfalso
      rcases hr with ⟨hb, _, _⟩ | ⟨hb, _, _⟩
      · have : b * 1 ≤ b * (q - q') := Int.mul_le_mul_of_nonneg_left (by omega) (by omega)
        omega
      · have : b * (q - q') ≤ b * 1 := Int.mul_le_mul_of_nonpos_left (by omega) (by omega)
        omega
  rw [hq] at e
  omega
theorem fdiv_is {a b q r : Int} (h : b * q + r = a) (hr : (0 < b ∧ 0 ≤ r ∧ r < b) ∨ (b < 0 ∧ b < r ∧ r ≤ 0)) : a.fdiv b = q ∧ a.fmod b = r := by
  refine div_one ((fdm a b).trans h.symm) ?_ hr
  rcases hr with ⟨hb, _⟩ | ⟨hb, _⟩
  · exact .inl ⟨hb, fmod_pos hb⟩
  · exact .inr ⟨hb, fmod_negb hb⟩

theorem tdm (a b : Int) : b * a.tdiv b + a.tmod b = a := Int.mul_tdiv_add_tmod a b
theorem tmod_sgn (a b : Int) (hb : b ≠ 0) : (0 ≤ a → 0 ≤ a.tmod b) ∧ (a ≤ 0 → a.tmod b ≤ 0) ∧ (0 < b → -b < a.tmod b ∧ a.tmod b < b) ∧ (b < 0 → b < a.tmod b ∧ a.tmod b < -b) := by
  have hlt : (a.tmod b).natAbs < b.natAbs := by rw [Int.natAbs_tmod]; exact Nat.mod_lt _ (by omega)
  refine ⟨fun h => Int.tmod_nonneg b h, fun h => ?_, fun h => by omega, fun h => by omega⟩
  have := Int.tmod_nonneg b (a := -a) (by omega)
  rw [Int.neg_tmod] at this
  omega
/-- The quotient toward 0 is the one rounded down where there is no rest, or the signs are the same. -/
theorem fdiv_same {a b : Int} (hb : b ≠ 0) (h : a.tmod b = 0 ∨ (a < 0 ↔ b < 0)) : a.fdiv b = a.tdiv b ∧ a.fmod b = a.tmod b := by
  refine fdiv_is (tdm a b) ?_
  have := tmod_sgn a b hb
  omega
theorem fdiv_other {a b : Int} (hb : b ≠ 0) (h : a.tmod b ≠ 0) (h' : ¬ (a < 0 ↔ b < 0)) : a.fdiv b = a.tdiv b - 1 ∧ a.fmod b = a.tmod b + b := by
  refine fdiv_is (by rw [Int.mul_sub]; have := tdm a b; omega) ?_
  have := tmod_sgn a b hb
  omega
theorem tdiv_fits {a b : Int} (ha : fits a) (hb : b ≠ 0) (hb1 : b ≠ -1) : fits (a.tdiv b) ∧ -9223372036854775807 ≤ a.tdiv b ∨ b = 1 := by
  by_cases h1 : b = 1
  · exact .inr h1
  refine .inl ?_
  have h : (a.tdiv b).natAbs ≤ a.natAbs / 2 := by
    rw [Int.natAbs_tdiv]
    exact Nat.div_le_div_left (by omega) (by omega)
  unfold fits at *
  omega
theorem wrap64_fits (z : Int) : fits (wrap64 z) := by unfold fits wrap64; omega
theorem wrap64_fit {z : Int} (h : fits z) : wrap64 z = z := by unfold fits at h; unfold wrap64; omega
theorem tdiv_fit {a b : Int} (ha : fits a) (hb : b ≠ 0) (hb1 : b ≠ -1) : fits (a.tdiv b) := by
  rcases tdiv_fits ha hb hb1 with ⟨h, _⟩ | rfl
  · exact h
  · rwa [Int.tdiv_one]
theorem mul_over' {a b : Int} (hb0 : b ≠ 0) (hb1 : b ≠ -1) (hb : fits b) (h : ¬ fits (a * b)) : (wrap64 ((wrap64 (a * b)).tdiv b) != a) = true := by
  rw [wrap64_fit (tdiv_fit (wrap64_fits _) hb0 hb1)]
  exact bne_iff_ne.mpr (mul_over hb0 hb h)
theorem tmod_fit {a b : Int} (ha : fits a) (hb : fits b) (hb0 : b ≠ 0) : fits (a.tmod b) := by
  have := tmod_sgn a b hb0
  unfold fits at *
  omega
theorem fmod_fit {a b : Int} (hb : fits b) (hb0 : b ≠ 0) : fits (a.fmod b) := by
  unfold fits at *
  rcases (by omega : 0 < b ∨ b < 0) with h | h
  · have := fmod_pos (a := a) h; omega
  · have := fmod_negb (a := a) h; omega
theorem tdiv_lo {a b : Int} (ha : fits a) (hb0 : b ≠ 0) (h : a.tmod b ≠ 0) : fits (a.tdiv b - 1) := by
  have hb1 : b ≠ -1 := by rintro rfl; exact h (by simp)
  rcases tdiv_fits ha hb0 hb1 with ⟨h1, h2⟩ | rfl
  · unfold fits at *; omega
  · exact absurd (by simp) h
theorem signs_same {a b : Int} (h : a < 0 ↔ b < 0) : (decide (a < 0) = true ∧ decide (b < 0) = true) ∨ (decide (a < 0) = false ∧ decide (b < 0) = false) := by
  simp only [decide_eq_true_eq, decide_eq_false_iff_not]; omega
theorem signs_other {a b : Int} (h : ¬ (a < 0 ↔ b < 0)) : (decide (a < 0) = true ∧ decide (b < 0) = false) ∨ (decide (a < 0) = false ∧ decide (b < 0) = true) := by
  simp only [decide_eq_true_eq, decide_eq_false_iff_not]; omega
theorem signs_same_mod {a b : Int} (hb0 : b ≠ 0) (h0 : a.tmod b ≠ 0) (h : a < 0 ↔ b < 0) : (decide (a.tmod b < 0) = true ∧ decide (b < 0) = true) ∨ (decide (a.tmod b < 0) = false ∧ decide (b < 0) = false) := by
  have := tmod_sgn a b hb0
  simp only [decide_eq_true_eq, decide_eq_false_iff_not]; omega
theorem signs_other_mod {a b : Int} (hb0 : b ≠ 0) (h0 : a.tmod b ≠ 0) (h : ¬ (a < 0 ↔ b < 0)) : (decide (a.tmod b < 0) = true ∧ decide (b < 0) = false) ∨ (decide (a.tmod b < 0) = false ∧ decide (b < 0) = true) := by
  have := tmod_sgn a b hb0
  simp only [decide_eq_true_eq, decide_eq_false_iff_not]; omega
end Go.Proofs.YtkhcneacjnpcnaaDoor
