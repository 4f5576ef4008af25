/- Plain: fractions of a second, long and short, and the whole nanoseconds in them. No walk stands here. -/
import Derived.Test.YtbffpallhofonaaEraM
namespace Go.Proofs.Ytbffpallhofonaa
open Go.RowKit
set_option linter.unusedVariables false

/-- Has a second such nanoseconds? -/
def okn (n : Int) : Bool := decide (0 ≤ n) && decide (n ≤ 999999999)
/-- The least fraction that isn't less than nanoseconds; the error's number. -/
def lfE (n : Int) : Int := if okn n = true then 0 else 1
def lfN (n : Int) : Int := if okn n = true then (n * 4294967296 + 1000000000 - 1) / 1000000000 else 0
/-- The whole nanoseconds in a long fraction, in a short one. -/
def lnN (f : Int) : Int := f * 1000000000 / 4294967296
def snN (f : Int) : Int := f * 1000000000 / 65536
/-- A short stamp of seconds and nanoseconds: its halves, the error's number. -/
def shE15 (s n : Int) : Int := if 0 ≤ s ∧ s ≤ 65535 ∧ okn n = true then 0 else 1
def shS15 (s n : Int) : Int := if 0 ≤ s ∧ s ≤ 65535 ∧ okn n = true then s else 0
def shF15 (s n : Int) : Int := if 0 ≤ s ∧ s ≤ 65535 ∧ okn n = true then n * 65536 / 1000000000 else 0

theorem okn_yes {n : Int} (h : okn n = true) : 0 ≤ n ∧ n ≤ 999999999 := by unfold okn at h; simpa using h
theorem okn_no {n : Int} (h : okn n = false) : n < 0 ∨ (0 ≤ n ∧ 999999999 < n) := by
  unfold okn at h
  by_cases c : 0 ≤ n
  · rw [decide_eq_true c] at h; simp at h; exact .inr ⟨c, by omega⟩
  · exact .inl (by omega)
theorem okn_of {n : Int} (h1 : 0 ≤ n) (h2 : n ≤ 999999999) : okn n = true := by unfold okn; simp; exact ⟨h1, h2⟩
theorem lf_yes {n : Int} (h : okn n = true) : lfE n = 0 ∧ lfN n = (n * 4294967296 + 1000000000 - 1) / 1000000000 := ⟨if_pos h, if_pos h⟩
theorem lf_no {n : Int} (h : okn n = false) : lfE n = 1 ∧ lfN n = 0 := ⟨if_neg (by simp [h]), if_neg (by simp [h])⟩
theorem lf_bd (n : Int) : 0 ≤ lfN n ∧ lfN n < 4294967296 := by
  unfold lfN
  split
  · next h => have := okn_yes h; omega
  · omega
theorem ln_bd {f : Int} (h0 : 0 ≤ f) (h1 : f < 4294967296) : 0 ≤ lnN f ∧ lnN f ≤ 999999999 := by unfold lnN; omega
theorem sn_bd {f : Int} (h0 : 0 ≤ f) (h1 : f < 65536) : 0 ≤ snN f ∧ snN f ≤ 999999999 := by unfold snN; omega
theorem ln_ok {f : Int} (h0 : 0 ≤ f) (h1 : f < 4294967296) : okn (lnN f) = true := okn_of (ln_bd h0 h1).1 (ln_bd h0 h1).2
theorem ln_lf {n : Int} (h : okn n = true) : lnN (lfN n) = n := by
  have := okn_yes h
  rw [(lf_yes h).2]; unfold lnN; omega
theorem lf_ln {f : Int} (h0 : 0 ≤ f) (h1 : f < 4294967296) : lfN (lnN f) ≤ f ∧ f - lfN (lnN f) ≤ 4 := by
  rw [(lf_yes (ln_ok h0 h1)).2]; unfold lnN; omega
theorem sh_no {s n : Int} (h : ¬ (0 ≤ s ∧ s ≤ 65535 ∧ okn n = true)) : shE15 s n = 1 ∧ shS15 s n = 0 ∧ shF15 s n = 0 := ⟨if_neg h, if_neg h, if_neg h⟩
theorem sh_yes {s n : Int} (h1 : 0 ≤ s) (h2 : s ≤ 65535) (h : okn n = true) : shE15 s n = 0 ∧ shS15 s n = s ∧ shF15 s n = n * 65536 / 1000000000 := ⟨if_pos ⟨h1, h2, h⟩, if_pos ⟨h1, h2, h⟩, if_pos ⟨h1, h2, h⟩⟩

/-- What the document asks of them. -/
theorem least_is {n : Int} (h : okn n = true) : n * 4294967296 ≤ lfN n * 1000000000 ∧ (lfN n = 0 ∨ (lfN n - 1) * 1000000000 < n * 4294967296) := by
  have := okn_yes h
  rw [(lf_yes h).2]; omega
theorem whole_is {f : Int} (h0 : 0 ≤ f) : lnN f * 4294967296 ≤ f * 1000000000 ∧ f * 1000000000 < (lnN f + 1) * 4294967296 := by unfold lnN; omega
theorem whole_short {f : Int} (h0 : 0 ≤ f) : snN f * 65536 ≤ f * 1000000000 ∧ f * 1000000000 < (snN f + 1) * 65536 := by unfold snN; omega
theorem within_is {n : Int} (h0 : 0 ≤ n) : n * 65536 / 1000000000 * 1000000000 ≤ n * 65536 ∧ n * 65536 < (n * 65536 / 1000000000 + 1) * 1000000000 := by omega

/-! well-formed words -/
theorem wf15_u64 {a : Int} (h : (Lit.int .u64 a).wf = true) : 0 ≤ a ∧ a < 18446744073709551616 := by
  simp [Lit.wf, IntKind.min, IntKind.max, IntKind.signed, IntKind.bits] at h; omega
theorem wf15_u32 {a : Int} (h : (Lit.int .u32 a).wf = true) : 0 ≤ a ∧ a < 4294967296 := by
  simp [Lit.wf, IntKind.min, IntKind.max, IntKind.signed, IntKind.bits] at h; omega
theorem wf15_i32 {a : Int} (h : (Lit.int .i32 a).wf = true) : -2147483648 ≤ a ∧ a < 2147483648 := by
  simp [Lit.wf, IntKind.min, IntKind.max, IntKind.signed, IntKind.bits] at h; omega
end Go.Proofs.Ytbffpallhofonaa
