/- Plain: powers of 2, numbers folded and unfolded, numbers near a pivot. -/
import Derived.Test.YtbffpallhofonaaNumM
namespace Go.Proofs.Ytbffpallhofonaa
open Go.RowKit

/-- 2 to the power n. -/
def pw (n : Nat) : Int := ((2 ^ n : Nat) : Int)
theorem pw_pos (n : Nat) : 0 < pw n := by unfold pw; have := Nat.two_pow_pos n; omega
theorem pw_zero : pw 0 = 1 := rfl
theorem pw_succ (n : Nat) : pw (n + 1) = 2 * pw n := by unfold pw; rw [Nat.pow_succ]; omega
theorem pw_le {n m : Nat} (h : n ≤ m) : pw n ≤ pw m := by
  unfold pw
  have := Nat.pow_le_pow_right (n := 2) (by omega) h
  omega
theorem pw_62 {n : Nat} (h : n ≤ 62) : pw n ≤ 4611686018427387904 := by
  have := pw_le h
  have e : pw 62 = 4611686018427387904 := rfl
  omega
theorem pw_dvd {n m : Nat} (h : n ≤ m) : pw n ∣ pw m := by
  unfold pw
  exact Int.natCast_dvd_natCast.mpr (Nat.pow_dvd_pow 2 h)
theorem pw_64 : pw 64 = 18446744073709551616 := rfl
theorem pw_32 : pw 32 = 4294967296 := rfl
theorem pw_16 : pw 16 = 65536 := rfl
theorem pw_8 : pw 8 = 256 := rfl
/-- Half of it. -/
def hf (n : Nat) : Int := pw (n - 1)
theorem hf_two {n : Nat} (h : 1 ≤ n) : pw n = 2 * hf n := by
  unfold hf
  obtain ⟨m, rfl⟩ : ∃ m, n = m + 1 := ⟨n - 1, by omega⟩
  exact pw_succ m
theorem hf_pos (n : Nat) : 0 < hf n := pw_pos _
theorem hf_61 {n : Nat} (h : n ≤ 62) : hf n ≤ 2305843009213693952 := by
  have := pw_le (n := n - 1) (m := 61) (by omega)
  have e : pw 61 = 2305843009213693952 := rfl
  unfold hf
  omega

/-- May a folded number have so many bits? -/
def okb (b : Int) : Bool := decide (1 ≤ b) && decide (b ≤ 62)
theorem okb_yes {n : Nat} (h1 : 1 ≤ n) (h2 : n ≤ 62) : okb (n : Int) = true := by
  unfold okb; simp; omega
theorem okb_of {b : Int} (h : okb b = true) : ∃ n : Nat, b = (n : Int) ∧ 1 ≤ n ∧ n ≤ 62 := by
  unfold okb at h; simp at h
  exact ⟨b.toNat, by omega, by omega, by omega⟩
/-- A number folded to n bits. -/
def fo (t : Int) (n : Nat) : Int := t % pw n
theorem fo_bd (t : Int) (n : Nat) : 0 ≤ fo t n ∧ fo t n < pw n := by
  have := pw_pos n
  exact ⟨Int.emod_nonneg _ (by omega), Int.emod_lt_of_pos _ (by omega)⟩
/-- A word of n bits, unfolded by the pivot p. -/
def un (x p : Int) (n : Nat) : Int := p + ((x - p + hf n) % pw n - hf n)
theorem un_bd (x p : Int) {n : Nat} (h : 1 ≤ n) : p - hf n ≤ un x p n ∧ un x p n < p + hf n := by
  unfold un
  have := hf_two h; have := hf_pos n
  have h1 := Int.emod_nonneg (x - p + hf n) (b := pw n) (by omega)
  have h2 := Int.emod_lt_of_pos (x - p + hf n) (b := pw n) (by omega)
  omega
theorem un_mod (x p : Int) (n : Nat) : ∃ q, un x p n = x - pw n * q := by
  refine ⟨(x - p + hf n) / pw n, ?_⟩
  unfold un
  have := Int.mul_ediv_add_emod (x - p + hf n) (pw n)
  omega
/-- The only number that is near and folds to the word. -/
theorem un_one {x p y k : Int} {n : Nat} (h : 1 ≤ n) (h1 : p - hf n ≤ y) (h2 : y < p + hf n) (h3 : y = x + pw n * k) : un x p n = y := by
  unfold un
  have e := hf_two h
  have e2 : x - p + hf n = (y - p + hf n) + pw n * (-k) := by rw [h3, Int.mul_neg]; omega
  rw [e2, Int.add_mul_emod_self_left, Int.emod_eq_of_lt (by omega) (by omega)]
  omega
/-- Is a number near a pivot? -/
def nr (t p : Int) (n : Nat) : Bool := decide (p - hf n ≤ t) && decide (t < p + hf n)
/-- What is unfolded: the number, the error's number. -/
def bsE (x b p : Int) : Int := if okb b = true ∧ x < pw b.toNat then bad (un x p b.toNat) else 1
def bsV (x b p : Int) : Int := if okb b = true ∧ x < pw b.toNat then sm (un x p b.toNat) else 0
theorem bsE_lo (x b p : Int) : 0 ≤ bsE x b p ∧ bsE x b p < 100 := by
  unfold bsE; split
  · unfold bad; split <;> decide
  · decide
theorem bsE_n {x p : Int} {n : Nat} (h1 : 1 ≤ n) (h2 : n ≤ 62) (hx : x < pw n) : bsE x n p = bad (un x p n) := if_pos ⟨okb_yes h1 h2, hx⟩
theorem bsV_n {x p : Int} {n : Nat} (h1 : 1 ≤ n) (h2 : n ≤ 62) (hx : x < pw n) : bsV x n p = sm (un x p n) := if_pos ⟨okb_yes h1 h2, hx⟩
theorem bs_no {x p b : Int} (h : okb b = false) : bsE x b p = 1 ∧ bsV x b p = 0 := ⟨if_neg (by simp [h]), if_neg (by simp [h])⟩
theorem bs_big {x p : Int} {n : Nat} (h : pw n ≤ x) : bsE x n p = 1 ∧ bsV x n p = 0 :=
  ⟨if_neg (fun e => absurd e.2 (by simp; omega)), if_neg (fun e => absurd e.2 (by simp; omega))⟩

/-! words -/
theorem mod_mod {t : Int} {n : Nat} (h : n ≤ 64) : t % 18446744073709551616 % pw n = t % pw n := by
  rw [← pw_64]; exact Int.emod_emod_of_dvd t (pw_dvd h)
theorem ahead_is (x p : Int) {n : Nat} (h : n ≤ 64) (b : Int) : ((x - p % 18446744073709551616) % 18446744073709551616 + b) % 18446744073709551616 % pw n = (x - p + b) % pw n := by
  rw [mod_mod h]
  have e1 := Int.mul_ediv_add_emod p 18446744073709551616
  have e2 := Int.mul_ediv_add_emod (x - p % 18446744073709551616) 18446744073709551616
  obtain ⟨c, hc⟩ := pw_dvd h
  rw [pw_64] at hc
  rw [Int.emod_eq_emod_iff_emod_sub_eq_zero]
  generalize p / 18446744073709551616 = q at *
  generalize (x - p % 18446744073709551616) / 18446744073709551616 = r at *
  have : (x - p % 18446744073709551616) % 18446744073709551616 + b - (x - p + b) = pw n * (c * (q - r)) := by
    rw [← Int.mul_assoc, ← hc, Int.mul_sub]; omega
  rw [this]
  exact Int.mul_emod_right _ _
/-- Folded and unfolded: near. -/
theorem un_fo {t p : Int} {n : Nat} (h : 1 ≤ n) (hn : nr t p n = true) : un (fo t n) p n = t := by
  unfold nr at hn; simp at hn
  refine un_one (k := t / pw n) h hn.1 hn.2 ?_
  unfold fo
  have := Int.mul_ediv_add_emod t (pw n)
  omega
theorem fo_un (x p : Int) {n : Nat} (h0 : 0 ≤ x) (h1 : x < pw n) : fo (un x p n) n = x := by
  obtain ⟨q, hq⟩ := un_mod x p n
  unfold fo
  rw [hq, show x - pw n * q = x + pw n * (-q) by rw [Int.mul_neg]; omega, Int.add_mul_emod_self_left, Int.emod_eq_of_lt h0 h1]
theorem nr_un (x p : Int) {n : Nat} (h : 1 ≤ n) : nr (un x p n) p n = true := by
  have := un_bd x p h
  unfold nr; simp; omega

/-- An era's second. -/
theorem jo_over {a s : Int} (hs : 0 ≤ s) (hs2 : s < 4294967296) (h : ¬ fits (a * 4294967296)) : ¬ fits (a * 4294967296 + s) := by
  unfold fits at *; omega
end Go.Proofs.Ytbffpallhofonaa
