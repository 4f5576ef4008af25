/- Package era: which numbers of bits there may be; half, lowest; FoldBits, Bits, Near, Split, Join; the generic Fold and Unfold. -/
import Derived.Test.YtbffpallhofonaaEraM
import Derived.Test.YtbffpallhofonaaNumA
import Derived.Test.YtbffpallhofonaaErr
import Derived.Outline
namespace Go.Proofs.Ytbffpallhofonaa
open Go.RowKit
set_option linter.unusedVariables false
set_option linter.unusedSimpArgs false

theorem allowed_any (b : Int) (w : World) :
    Calls Try.prog 71 #[.int .i64 b] w fun e w' => e = .returned (.bool (okb b)) ∧ w = w' := by
  by_cases h : 1 ≤ b
  · have hb : decide (1 ≤ b) = true := by simpa using h
    go_enter Try.func71, Try.ntmps71
    go_wp2
    go_ret
    exact ⟨by simp [okb, h], rfl⟩
  · have hb : decide (1 ≤ b) = false := by simpa using h
    have hk : okb b = false := by unfold okb; rw [hb]; rfl
    go_enter Try.func71, Try.ntmps71
    go_wp2
    go_ret
    exact ⟨rfl, rfl⟩

theorem half_any (n : Nat) (w : World) (h1 : 1 ≤ n) (h2 : n ≤ 62) :
    Calls Try.prog 73 #[.int .i64 n] w fun e w' => e = .returned (.int .i64 (hf n)) ∧ w = w' := by
  obtain ⟨m, rfl⟩ : ∃ m, n = m + 1 := ⟨n - 1, by omega⟩
  have hm : m ≤ 61 := by omega
  have e1 : IntKind.i64.wrap (((m + 1 : Nat) : Int) - 1) = (m : Int) := by rw [IntWalk.i64_in _ (by omega)]; omega
  have hh : hf (m + 1) = pw m := rfl
  have hl := hf_61 h2
  have h0 := hf_pos (m + 1)
  rw [hh] at hl h0 ⊢
  have e2 : IntKind.i64.wrap ((2 : Int) ^ m) = pw m := by
    have : (2 : Int) ^ m = pw m := by unfold pw; push_cast; rfl
    rw [this]; exact IntWalk.i64_in _ (by omega)
  go_enter Try.func73, Try.ntmps73
  go_wp2
  go_ret
  exact ⟨rfl, rfl⟩

/-- A word's lowest bits. -/
theorem mask_is {x : Int} {n : Nat} (h0 : 0 ≤ x) (hx : x < 18446744073709551616) (h2 : n ≤ 62) :
    bits .and .u64 x (IntKind.u64.wrap (IntKind.u64.wrap ((2 : Int) ^ n) - 1)) = x % pw n := by
  have hp := pw_pos n; have hl := pw_62 h2
  have e : (2 : Int) ^ n = pw n := by unfold pw; push_cast; rfl
  rw [e, IntWalk.u64_in (pw n) (by omega), IntWalk.u64_in (pw n - 1) (by omega)]
  have hN : pw n - 1 = ((2 ^ n - 1 : Nat) : Int) := by have := Nat.two_pow_pos n; unfold pw; omega
  obtain ⟨y, rfl⟩ : ∃ y : Nat, x = (y : Int) := ⟨x.toNat, by omega⟩
  rw [hN, u64_and_nat _ _ (by omega) (by unfold pw at hl; have := Nat.two_pow_pos n; omega), Nat.and_two_pow_sub_one_eq_mod]
  unfold pw
  omega

theorem lowest_any (x : Int) (n : Nat) (w : World) (h0 : 0 ≤ x) (hx : x < 18446744073709551616) (h1 : 1 ≤ n) (h2 : n ≤ 62) :
    Calls Try.prog 72 #[.int .u64 x, .int .i64 n] w fun e w' => e = .returned (.int .u64 (x % pw n)) ∧ w = w' := by
  have e1 := mask_is h0 hx h2
  go_enter Try.func72, Try.ntmps72
  go_wp2
  go_ret
  exact ⟨rfl, rfl⟩

theorem foldbits_no (t b : Int) (w : World) (h : okb b = false) :
    Calls Try.prog 56 #[.int .i64 t, .int .i64 b] w fun e w' => e = .returned (.tuple #[.int .u64 0, ev 1]) ∧ w = w' := by
  have HO := Lib.hid (allowed_any b)
  rw [h] at HO
  go_enter Try.func56, Try.ntmps56
  go_wp2_with (go_at_call 71; refine (HO.out _).mono ?_; rintro e w' ⟨rfl, rfl⟩)
  go_ret2
  exact ⟨rfl, rfl⟩
theorem foldbits_yes (t : Int) (n : Nat) (w : World) (ht : fits t) (h1 : 1 ≤ n) (h2 : n ≤ 62) :
    Calls Try.prog 56 #[.int .i64 t, .int .i64 n] w fun e w' => e = .returned (.tuple #[.int .u64 (fo t n), ev 0]) ∧ w = w' := by
  have HO := Lib.hid (allowed_any n)
  rw [okb_yes h1 h2] at HO
  have e1 : IntKind.u64.wrap t = t % 18446744073709551616 := IntKind.wrap_u64 t
  have HL := Lib.hid (fun w => lowest_any (t % 18446744073709551616) n w (by omega) (by omega) h1 h2)
  rw [mod_mod (by omega)] at HL
  change Hid (∀ w, Calls _ _ _ _ (fun e w' => e = .returned (.int .u64 (fo t n)) ∧ w = w')) at HL
  generalize fo t n = f at *
  have HT := Lib.hid ht
  clear ht
  go_enter Try.func56, Try.ntmps56
  go_wp2_with first | (go_at_call 71; refine (HO.out _).mono ?_; rintro e w' ⟨rfl, rfl⟩) | (go_at_call 72; refine (HL.out _).mono ?_; rintro e w' ⟨rfl, rfl⟩)
  go_ret2
  exact ⟨rfl, rfl⟩

theorem bits_no (x b p : Int) (w : World) (h : okb b = false) :
    Calls Try.prog 55 #[.int .u64 x, .int .i64 b, .int .i64 p] w fun e w' => e = .returned (.tuple #[.int .i64 0, ev 1]) ∧ w = w' := by
  have HO := Lib.hid (allowed_any b)
  rw [h] at HO
  go_enter Try.func55, Try.ntmps55
  go_wp2_with (go_at_call 71; refine (HO.out _).mono ?_; rintro e w' ⟨rfl, rfl⟩)
  go_ret2
  exact ⟨rfl, rfl⟩
theorem shr_is (x : Int) (n : Nat) : x / (2 : Int) ^ n = x / pw n := by
  have e : (2 : Int) ^ n = pw n := by unfold pw; push_cast; rfl
  rw [e]
theorem bits_big (x p : Int) (n : Nat) (w : World) (h1 : 1 ≤ n) (h2 : n ≤ 62) (hx0 : 0 ≤ x) (hx : x < 18446744073709551616) (hb : pw n ≤ x) :
    Calls Try.prog 55 #[.int .u64 x, .int .i64 n, .int .i64 p] w fun e w' => e = .returned (.tuple #[.int .i64 0, ev 1]) ∧ w = w' := by
  have HO := Lib.hid (allowed_any n)
  rw [okb_yes h1 h2] at HO
  have hp := pw_pos n
  have e1 : (x / (2 : Int) ^ n != 0) = true := by
    rw [shr_is]
    have : 1 ≤ x / pw n := (Int.le_ediv_iff_mul_le hp).mpr (by omega)
    exact bne_iff_ne.mpr (by omega)
  clear hb hp
  go_enter Try.func55, Try.ntmps55
  go_wp2_with (go_at_call 71; refine (HO.out _).mono ?_; rintro e w' ⟨rfl, rfl⟩)
  go_ret2
  exact ⟨rfl, rfl⟩
set_option maxHeartbeats 1600000 in
theorem bits_yes (x p : Int) (n : Nat) (w : World) (h1 : 1 ≤ n) (h2 : n ≤ 62) (hx0 : 0 ≤ x) (hb : x < pw n) (hp : fits p) :
    Calls Try.prog 55 #[.int .u64 x, .int .i64 n, .int .i64 p] w fun e w' => e = .returned (.tuple #[.int .i64 (sm (un x p n)), ev (bad (un x p n))]) ∧ w = w' := by
  have HO := Lib.hid (allowed_any n)
  rw [okb_yes h1 h2] at HO
  have hp0 := pw_pos n
  have e1 : (x / (2 : Int) ^ n != 0) = false := by
    rw [shr_is, Int.ediv_eq_zero_of_lt hx0 hb]; rfl
  have HH := Lib.hid (fun w => half_any n w h1 h2)
  have hl := hf_61 h2; have hh0 := hf_pos n; have ht := hf_two h1; have h62 := pw_62 h2
  obtain ⟨A, hA⟩ : ∃ A, A = (x - p + hf n) % pw n := ⟨_, rfl⟩
  have HL : Hid (∀ w, Calls Try.prog 72 #[.int .u64 (IntKind.u64.wrap (IntKind.u64.wrap (x - p % 18446744073709551616) + hf n)), .int .i64 n] w fun e w' => e = .returned (.int .u64 A) ∧ w = w') := Lib.hid (fun w => by
    rw [IntKind.wrap_u64, IntKind.wrap_u64]
    have := lowest_any (((x - p % 18446744073709551616) % 18446744073709551616 + hf n) % 18446744073709551616) n w (by omega) (by omega) h1 h2
    rw [ahead_is x p (by omega) (hf n), ← hA] at this
    exact this)
  have a0 : 0 ≤ A := by rw [hA]; exact Int.emod_nonneg _ (by omega)
  have a1 : A < pw n := by rw [hA]; exact Int.emod_lt_of_pos _ (by omega)
  have eU : un x p n = p + (A - hf n) := by rw [hA]; rfl
  rw [eU]
  have HN := Lib.hid (fun w => add_any p (A - hf n) w hp (by unfold fits; omega))
  have e2 : IntKind.u64.wrap p = p % 18446744073709551616 := IntKind.wrap_u64 p
  have e3 : IntKind.u64.wrap (hf n) = hf n := IntWalk.u64_in _ (by omega)
  have e6 : IntKind.i64.wrap A = A := IntWalk.i64_in _ (by omega)
  have e7 : IntKind.i64.wrap (A - hf n) = A - hf n := IntWalk.i64_in _ (by omega)
  generalize hf n = H at *
  clear hA eU hp
  have Hl := Lib.hid hl; have Hb := Lib.hid hb; have H62 := Lib.hid h62
  clear hl hb h62 ht
  go_enter Try.func55, Try.ntmps55
  go_wp2_with first | (go_at_call 71; refine (HO.out _).mono ?_; rintro e w' ⟨rfl, rfl⟩) | (go_at_call 73; refine (HH.out _).mono ?_; rintro e w' ⟨rfl, rfl⟩) | (go_at_call 72; refine (HL.out _).mono ?_; rintro e w' ⟨rfl, rfl⟩) | (go_at_call 47; refine (HN.out _).mono ?_; rintro e w' ⟨rfl, rfl⟩)
  go_ret2
  exact ⟨rfl, rfl⟩
theorem bits_any (x b p : Int) (w : World) (hx0 : 0 ≤ x) (hx : x < 18446744073709551616) (hp : fits p) :
    Calls Try.prog 55 #[.int .u64 x, .int .i64 b, .int .i64 p] w fun e w' => e = .returned (.tuple #[.int .i64 (bsV x b p), ev (bsE x b p)]) ∧ w = w' := by
  cases h : okb b with
  | false => rw [(bs_no h).1, (bs_no h).2]; exact bits_no x b p w h
  | true =>
    obtain ⟨n, rfl, h1, h2⟩ := okb_of h
    by_cases hb : x < pw n
    · rw [bsE_n h1 h2 hb, bsV_n h1 h2 hb]; exact bits_yes x p n w h1 h2 hx0 hb hp
    · rw [(bs_big (by omega)).1, (bs_big (by omega)).2]; exact bits_big x p n w h1 h2 hx0 hx (by omega)
end Go.Proofs.Ytbffpallhofonaa
