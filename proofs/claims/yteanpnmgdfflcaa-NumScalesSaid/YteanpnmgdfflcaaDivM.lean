/- A product of two words divided by a word, two figures at a time: plain mathematics. -/
import Derived.RowKit
import Derived.Lib.ItoaNum
import Derived.Lib.BitFns
namespace Go.Proofs.Yteanpnmgdfflcaa

section
variable {u d y y1 y0 q rh : Nat}
/-- The estimate is too great just where the second test says so. -/
theorem est_iff (hy : y = y1 * 4294967296 + y0) (hq : q * y1 + rh = u) : 4294967296 * rh + d < q * y0 ↔ u * 4294967296 + d < q * y := by
  rw [hy, Nat.mul_add, ← Nat.mul_assoc, ← hq]
  generalize q * y1 = a
  generalize q * y0 = b
  omega
theorem quo_lt (hu : u < y) (hd : d < 4294967296) : (u * 4294967296 + d) / y < 4294967296 := by
  rw [Nat.div_lt_iff_lt_mul (by omega)]
  have : (u + 1) * 4294967296 ≤ y * 4294967296 := Nat.mul_le_mul_right _ hu
  rw [Nat.mul_comm 4294967296 y]
  omega
theorem quo_below (hy : 0 < y) {n : Nat} (h : n < q * y) : n / y < q := (Nat.div_lt_iff_lt_mul hy).mpr h
theorem quo_above (hy : 0 < y) {n : Nat} (h : ¬ n < q * y) : q ≤ n / y := (Nat.le_div_iff_mul_le hy).mpr (by omega)
/-- The first estimate is not too small. -/
theorem est_start (hy : y = y1 * 4294967296 + y0) (h1 : 0 < y1) (hd : d < 4294967296) : (u * 4294967296 + d) / y ≤ u / y1 := by
  rw [Nat.le_div_iff_mul_le h1]
  have h : (u * 4294967296 + d) / y * y ≤ u * 4294967296 + d := Nat.div_mul_le_self _ _
  generalize (u * 4294967296 + d) / y = Q at *
  rw [hy, Nat.mul_add, ← Nat.mul_assoc] at h
  generalize Q * y1 = a at *
  generalize Q * y0 = b at *
  omega
/-- Where the rest has become great enough the estimate is right. -/
theorem est_break (hy : y = y1 * 4294967296 + y0) (h0 : y0 < 4294967296) (hu : u < y) (hq : q * y1 + rh = u) (hr : 4294967296 ≤ rh) (hge : (u * 4294967296 + d) / y ≤ q) : (u * 4294967296 + d) / y = q := by
  refine Nat.le_antisymm hge (quo_above (by omega) ?_)
  rw [← est_iff hy hq]
  have hlt : q < 4294967296 := by
    rcases Nat.lt_or_ge q 4294967296 with h | h
    · exact h
    · exfalso
      have := Nat.mul_le_mul_right y1 h
      rw [Nat.mul_comm 4294967296 y1] at this
      omega
  have h2 : q * y0 ≤ q * 4294967296 := Nat.mul_le_mul_left _ (by omega)
  omega
theorem est_exit (hy : y = y1 * 4294967296 + y0) (hy0 : 0 < y) (hq : q * y1 + rh = u) (hn : ¬ 4294967296 * rh + d < q * y0) (hge : (u * 4294967296 + d) / y ≤ q) : (u * 4294967296 + d) / y = q :=
  Nat.le_antisymm hge (quo_above hy0 (by rw [← est_iff hy hq]; exact hn))
end

/-- Two figures after another are the whole quotient. -/
theorem two_steps' {u a b y B : Nat} (hy : 0 < y) : (u * B + a) / y * B + (((u * B + a) % y) * B + b) / y = (u * (B * B) + (a * B + b)) / y := by
  have h := Nat.div_add_mod (u * B + a) y
  generalize (u * B + a) / y = Q at *
  generalize (u * B + a) % y = R at *
  have e : u * (B * B) + (a * B + b) = (R * B + b) + y * (Q * B) := by
    rw [← Nat.mul_assoc, ← Nat.add_assoc, ← Nat.add_mul, ← h, Nat.add_mul, Nat.mul_assoc]
    omega
  rw [e, Nat.add_mul_div_left _ _ hy, Nat.add_comm]
theorem two_steps {u a b y : Nat} (hy : 0 < y) :
    (u * 4294967296 + a) / y * 4294967296 + (((u * 4294967296 + a) % y) * 4294967296 + b) / y = (u * 18446744073709551616 + (a * 4294967296 + b)) / y :=
  two_steps' (B := 4294967296) hy

/-- The shift ahead of the division, and what it does to the number. -/
theorem shift_facts {y : Nat} (h0 : 0 < y) (h1 : y < 18446744073709551616) : ∃ s k : Nat, s ≤ 63 ∧ Lib.bitLen y = 64 - s ∧ k = 2 ^ s ∧ 0 < k ∧ 9223372036854775808 ≤ y * k ∧ y * k < 18446744073709551616 := by
  have hb := Lib.bitLenAux_bounds 64 y h1 (by omega)
  have hbl : Lib.bitLen y = Lib.bitLenAux 64 y := rfl
  have hle := Lib.bitLen_le y 64 (by omega) h1
  rw [← hbl] at hb
  generalize Lib.bitLen y = n at *
  obtain ⟨g1, g2, g3⟩ := hb
  refine ⟨64 - n, 2 ^ (64 - n), by omega, by omega, rfl, Nat.pow_pos (by omega), ?_, ?_⟩
  · have e : 2 ^ (n - 1) * 2 ^ (64 - n) = 9223372036854775808 := by rw [← Nat.pow_add, show n - 1 + (64 - n) = 63 from by omega]
    rw [← e]; exact Nat.mul_le_mul_right _ g2
  · have e : 2 ^ n * 2 ^ (64 - n) = 18446744073709551616 := by rw [← Nat.pow_add, show n + (64 - n) = 64 from by omega]
    rw [← e]; exact Nat.mul_lt_mul_of_pos_right g3 (Nat.pow_pos (by omega))
theorem shift_num' {hi lo y k p M : Nat} (e : k * p = M) (hp : 0 < p) (hk0 : 0 < k) (hlo : lo < M) (hhi : hi < y) :
    hi * k + lo / p < y * k ∧ (hi * k + lo / p) * M + lo * k % M = (hi * M + lo) * k ∧ lo / p < k := by
  have h1 : lo / p < k := by rw [Nat.div_lt_iff_lt_mul hp, e]; exact hlo
  have h2 : lo * k / M = lo / p := by rw [← e, Nat.mul_comm k, Nat.mul_div_mul_right _ _ hk0]
  have h3 := Nat.div_add_mod (lo * k) M
  rw [h2] at h3
  have h4 : (hi + 1) * k ≤ y * k := Nat.mul_le_mul_right _ hhi
  rw [Nat.add_mul, Nat.one_mul] at h4
  refine ⟨by omega, ?_, h1⟩
  generalize lo / p = t at *
  generalize lo * k % M = r at *
  rw [Nat.add_mul, Nat.add_mul, ← h3, Nat.mul_comm M t, Nat.mul_assoc, Nat.mul_comm k M, ← Nat.mul_assoc]
  omega
theorem shift_num {hi lo y s k : Nat} (hs : s ≤ 63) (hk : k = 2 ^ s) (hlo : lo < 18446744073709551616) (hhi : hi < y) :
    hi * k + lo / 2 ^ (64 - s) < y * k ∧ (hi * k + lo / 2 ^ (64 - s)) * 18446744073709551616 + lo * k % 18446744073709551616 = (hi * 18446744073709551616 + lo) * k ∧ lo / 2 ^ (64 - s) < k := by
  refine shift_num' ?_ (Nat.pow_pos (by omega)) (by rw [hk]; exact Nat.pow_pos (by omega)) hlo hhi
  rw [hk, ← Nat.pow_add, show s + (64 - s) = 64 from by omega]
end Go.Proofs.Yteanpnmgdfflcaa
