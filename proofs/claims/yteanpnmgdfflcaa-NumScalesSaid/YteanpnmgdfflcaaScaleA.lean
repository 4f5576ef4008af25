/- num.Scale. -/
import Derived.Test.YteanpnmgdfflcaaDivA
namespace Go.Proofs.Yteanpnmgdfflcaa
open Go.RowKit

theorem div64_all (hi lo y : Nat) (w : World) (hlo : lo < 18446744073709551616) (hy : y < 18446744073709551616) (hh : hi < y) :
    Calls Try.prog 35 #[.int .u64 hi, .int .u64 lo, .int .u64 y] w fun e w' => ∃ r : Value, e = .returned (.tuple #[.int .u64 (((hi * 18446744073709551616 + lo) / y : Nat) : Int), r]) ∧ Below w.heap.size w w' := by
  rcases Nat.eq_zero_or_pos hi with h0 | h0
  · subst h0
    refine (div64_low lo y w hlo hy (by omega)).mono ?_
    rintro e w' ⟨r, he, hb⟩
    exact ⟨r, by rw [he, Nat.zero_mul, Nat.zero_add], hb⟩
  · exact div64_any hi lo y w hlo hy h0 hh

theorem scale_no (a b c : Int) (w : World) (h : a < 0 ∨ b < 0 ∨ c < 1) :
    Calls Try.prog 24 #[.int .i64 a, .int .i64 b, .int .i64 c] w fun e w' => e = .returned (.tuple #[.int .i64 0, ev 1]) ∧ w = w' := by
  rcases (by omega : a < 0 ∨ (¬ a < 0 ∧ b < 0) ∨ (¬ a < 0 ∧ ¬ b < 0 ∧ c < 1)) with h1 | ⟨h1, h2⟩ | ⟨h1, h2, h3⟩
  all_goals
    clear h
    go_enter Try.func24, Try.ntmps24
    go_wp2_with fail
    go_ret2
    exact ⟨ret2_eq rfl rfl, rfl⟩

theorem over_le {h l c M : Nat} (ho : c ≤ h) (hc : 1 ≤ c) : M ≤ (h * M + l) / c := by
  rw [Nat.le_div_iff_mul_le hc, Nat.mul_comm M c]
  have := Nat.mul_le_mul_right M ho
  omega
theorem under_lt {h l c M : Nat} (ho : h < c) (hl : l < M) : (h * M + l) / c < M := by
  rw [Nat.div_lt_iff_lt_mul (by omega), Nat.mul_comm M c]
  have := Nat.mul_le_mul_right M (show h + 1 ≤ c by omega)
  rw [Nat.add_mul, Nat.one_mul] at this
  omega

set_option maxRecDepth 100000 in
set_option maxHeartbeats 800000 in
theorem scale_any (a b c : Nat) (w : World) (ha : a ≤ 9223372036854775807) (hb : b ≤ 9223372036854775807) (hc : c ≤ 9223372036854775807) (hc1 : 1 ≤ c) :
    Calls Try.prog 24 #[.int .i64 a, .int .i64 b, .int .i64 c] w fun e w' => e = .returned (.tuple #[.int .i64 (sm ((a * b / c : Nat) : Int)), ev (bad ((a * b / c : Nat) : Int))]) ∧ Below w.heap.size w w' := by
  obtain ⟨h, hh⟩ : ∃ n, n = a * b / 18446744073709551616 := ⟨_, rfl⟩
  obtain ⟨l, hl⟩ : ∃ n, n = a * b % 18446744073709551616 := ⟨_, rfl⟩
  have hll : l < 18446744073709551616 := by rw [hl]; exact Nat.mod_lt _ (by omega)
  have hdm : h * 18446744073709551616 + l = a * b := by have := Nat.div_add_mod (a * b) 18446744073709551616; rw [← hh, ← hl] at this; omega
  have hhl : h ≤ 4611686018427387904 := by
    have : a * b ≤ 9223372036854775807 * 9223372036854775807 := Nat.mul_le_mul ha hb
    omega
  have HM := Try.bits_Mul64 a b (by omega) (by omega) w
  rw [← hh, ← hl] at HM
  have HM2 := Lib.hid HM
  have HD := Lib.hid hdm
  clear HM hh hl hdm
  obtain ⟨q, hq⟩ : ∃ n, n = a * b / c := ⟨_, rfl⟩
  rw [← hq]
  have HQ := Lib.hid hq
  clear hq
  have a1 : ¬ (a : Int) < 0 := by omega
  have b1 : ¬ (b : Int) < 0 := by omega
  have c1 : ¬ (c : Int) < 1 := by omega
  by_cases ho : c ≤ h
  · have hno : ¬ fits (q : Int) := by
      have e : 18446744073709551616 ≤ q := by
        rw [HQ.out, ← HD.out]
        exact over_le ho hc1
      unfold fits; omega
    have ho' : decide (c ≤ h) = true := decide_eq_true ho
    have HS := Lib.hid (sm_no hno); have HB := Lib.hid (bad_no hno)
    clear ho hno
    go_enter Try.func24, Try.ntmps24
    go_wp2_with fail
    refine HM2.out.mono ?_
    rintro e w' ⟨rfl, rfl⟩
    go_wp2_with fail
    go_ret2
    exact ⟨ret2_eq (int_eq HS.out.symm) (by rw [HB.out]; rfl), Below.refl _ _⟩
  · have ho' : decide (c ≤ h) = false := decide_eq_false ho
    have HDV : Hid (Calls Try.prog 35 #[.int .u64 h, .int .u64 l, .int .u64 c] w fun e w' => ∃ r : Value, e = .returned (.tuple #[.int .u64 (q : Int), r]) ∧ Below w.heap.size w w') := by
      have := div64_all h l c w hll (by omega) (by omega)
      rw [HD.out, ← HQ.out] at this
      exact this
    have hql : q < 18446744073709551616 := by
      rw [HQ.out, ← HD.out]
      exact under_lt (by omega) hll
    clear ho
    by_cases hf : 9223372036854775807 < q
    · have hno : ¬ fits (q : Int) := by unfold fits; omega
      have hf' : decide ((9223372036854775807 : Int) < (q : Int)) = true := decide_eq_true (by omega)
      have HS := Lib.hid (sm_no hno); have HB := Lib.hid (bad_no hno)
      clear hf hno hql
      go_enter Try.func24, Try.ntmps24
      go_wp2_with fail
      refine HM2.out.mono ?_
      rintro e w' ⟨rfl, rfl⟩
      go_wp2_with fail
      refine HDV.out.mono ?_
      rintro e w1 ⟨r, rfl, hb1⟩
      go_wp2_with fail
      go_ret2
      exact ⟨ret2_eq (int_eq HS.out.symm) (by rw [HB.out]; rfl), hb1⟩
    · have hyes : fits (q : Int) := by unfold fits; omega
      have hf' : decide ((9223372036854775807 : Int) < (q : Int)) = false := decide_eq_false (by omega)
      have HS := Lib.hid (sm_fit hyes); have HB := Lib.hid (bad_fit hyes)
      have hq2 : (q : Int) ≤ 9223372036854775807 := by omega
      clear hf hyes hql
      go_enter Try.func24, Try.ntmps24
      go_wp2_with fail
      refine HM2.out.mono ?_
      rintro e w' ⟨rfl, rfl⟩
      go_wp2_with fail
      refine HDV.out.mono ?_
      rintro e w1 ⟨r, rfl, hb1⟩
      go_wp2_with fail
      go_ret2
      exact ⟨ret2_eq (int_eq HS.out.symm) (by rw [HB.out]; rfl), hb1⟩
end Go.Proofs.Yteanpnmgdfflcaa
