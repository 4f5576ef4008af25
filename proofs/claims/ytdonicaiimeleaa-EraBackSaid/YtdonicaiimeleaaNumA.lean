/- The functions of package num, each by a contract. -/
import Derived.Test.YtdonicaiimeleaaRows
import Derived.Test.YtdonicaiimeleaaNumM
import Derived.WalkKit
import Derived.ProofKit
import Derived.OpenShut
import Derived.Handy
import Derived.Lib.Hide
import Derived.WalkSpells
namespace Go.Proofs.Ytdonicaiimeleaa
open Go.RowKit

theorem add_any (a b : Int) (w : World) (ha : fits a) (hb : fits b) :
    Calls Try.prog 34 #[.int .i64 a, .int .i64 b] w fun e w' => e = .returned (.tuple #[.int .i64 (sm (a + b)), ev (bad (a + b))]) ∧ w = w' := by
  have ha' := ha; have hb' := hb
  unfold fits at ha hb
  by_cases hf : fits (a + b)
  · have hs := Lib.hid (sm_fit hf); have hd := Lib.hid (bad_fit hf)
    unfold fits at hf
    rcases (by omega : b > 0 ∨ b = 0 ∨ b < 0) with hb0 | hb0 | hb0
    · have h1 : ¬ (b < 0) := by omega
      have h2 : ¬ (a > 9223372036854775807 - b) := by omega
      go_enter Try.func34, Try.ntmps34
      go_wp2
      go_ret2
      exact ⟨ret2_eq (int_eq hs.out.symm) (by rw [hd.out]; rfl), rfl⟩
    · subst hb0
      go_enter Try.func34, Try.ntmps34
      go_wp2
      go_ret2
      exact ⟨ret2_eq (int_eq ((Int.add_zero a).symm.trans hs.out.symm)) (by rw [hd.out]; rfl), rfl⟩
    · have h2 : ¬ (a < -9223372036854775808 - b) := by omega
      go_enter Try.func34, Try.ntmps34
      go_wp2
      go_ret2
      exact ⟨ret2_eq (int_eq hs.out.symm) (by rw [hd.out]; rfl), rfl⟩
  · have hs := Lib.hid (sm_no hf); have hd := Lib.hid (bad_no hf)
    unfold fits at hf
    rcases (by omega : (0 < b ∧ a > 9223372036854775807 - b) ∨ (b < 0 ∧ a < -9223372036854775808 - b)) with ⟨hb0, h2⟩ | ⟨hb0, h2⟩
    · have h1 : ¬ (b < 0) := by omega
      clear hf
      go_enter Try.func34, Try.ntmps34
      go_wp2
      go_ret2
      exact ⟨ret2_eq (int_eq hs.out.symm) (by rw [hd.out]; rfl), rfl⟩
    · clear hf
      go_enter Try.func34, Try.ntmps34
      go_wp2
      go_ret2
      exact ⟨ret2_eq (int_eq hs.out.symm) (by rw [hd.out]; rfl), rfl⟩

theorem sub_any (a b : Int) (w : World) (ha : fits a) (hb : fits b) :
    Calls Try.prog 31 #[.int .i64 a, .int .i64 b] w fun e w' => e = .returned (.tuple #[.int .i64 (sm (a - b)), ev (bad (a - b))]) ∧ w = w' := by
  unfold fits at ha hb
  by_cases hf : fits (a - b)
  · have hs := Lib.hid (sm_fit hf); have hd := Lib.hid (bad_fit hf)
    unfold fits at hf
    rcases (by omega : b > 0 ∨ b = 0 ∨ b < 0) with hb0 | hb0 | hb0
    · have h1 : ¬ (b < 0) := by omega
      have h2 : ¬ (a < -9223372036854775808 + b) := by omega
      go_enter Try.func31, Try.ntmps31
      go_wp2
      go_ret2
      exact ⟨ret2_eq (int_eq hs.out.symm) (by rw [hd.out]; rfl), rfl⟩
    · subst hb0
      go_enter Try.func31, Try.ntmps31
      go_wp2
      go_ret2
      exact ⟨ret2_eq (int_eq ((Int.sub_zero a).symm.trans hs.out.symm)) (by rw [hd.out]; rfl), rfl⟩
    · have h2 : ¬ (a > 9223372036854775807 + b) := by omega
      go_enter Try.func31, Try.ntmps31
      go_wp2
      go_ret2
      exact ⟨ret2_eq (int_eq hs.out.symm) (by rw [hd.out]; rfl), rfl⟩
  · have hs := Lib.hid (sm_no hf); have hd := Lib.hid (bad_no hf)
    unfold fits at hf
    rcases (by omega : (0 < b ∧ a < -9223372036854775808 + b) ∨ (b < 0 ∧ a > 9223372036854775807 + b)) with ⟨hb0, h2⟩ | ⟨hb0, h2⟩
    · have h1 : ¬ (b < 0) := by omega
      clear hf
      go_enter Try.func31, Try.ntmps31
      go_wp2
      go_ret2
      exact ⟨ret2_eq (int_eq hs.out.symm) (by rw [hd.out]; rfl), rfl⟩
    · clear hf
      go_enter Try.func31, Try.ntmps31
      go_wp2
      go_ret2
      exact ⟨ret2_eq (int_eq hs.out.symm) (by rw [hd.out]; rfl), rfl⟩

theorem neg_any (a : Int) (w : World) (ha : fits a) :
    Calls Try.prog 48 #[.int .i64 a] w fun e w' => e = .returned (.tuple #[.int .i64 (sm (-a)), ev (bad (-a))]) ∧ w = w' := by
  unfold fits at ha
  by_cases hf : fits (-a)
  · have hs := Lib.hid (sm_fit hf); have hd := Lib.hid (bad_fit hf)
    unfold fits at hf
    have h1 : ¬ (a = -9223372036854775808) := by omega
    go_enter Try.func48, Try.ntmps48
    go_wp2
    go_ret2
    exact ⟨ret2_eq (int_eq hs.out.symm) (by rw [hd.out]; rfl), rfl⟩
  · have hs := Lib.hid (sm_no hf); have hd := Lib.hid (bad_no hf)
    unfold fits at hf
    obtain rfl : a = -9223372036854775808 := by omega
    clear hf
    go_enter Try.func48, Try.ntmps48
    go_wp2
    go_ret2
    exact ⟨ret2_eq (int_eq hs.out.symm) (by rw [hd.out]; rfl), rfl⟩

theorem mul_any (a b : Int) (w : World) (ha : fits a) (hb : fits b) :
    Calls Try.prog 44 #[.int .i64 a, .int .i64 b] w fun e w' => e = .returned (.tuple #[.int .i64 (sm (a * b)), ev (bad (a * b))]) ∧ w = w' := by
  have hA := Lib.hid ha; have hB := Lib.hid hb
  unfold fits at ha hb
  by_cases hb0 : b = 0
  · subst hb0
    go_enter Try.func44, Try.ntmps44
    go_wp2
    go_ret2
    exact ⟨ret2_eq (int_eq (by rw [Int.mul_zero]; rfl)) (by rw [Int.mul_zero]; rfl), rfl⟩
  by_cases hb1 : b = -1
  · subst hb1
    go_enter Try.func44, Try.ntmps44
    go_wp2_with (go_at_call 48; refine (neg_any _ _ hA.out).mono ?_; rintro e w' ⟨rfl, rfl⟩)
    go_ret2
    have he : -a = a * -1 := by omega
    exact ⟨ret2_eq (int_eq (congrArg sm he)) (congrArg (fun z => ev (bad z)) he), rfl⟩
  by_cases hf : fits (a * b)
  · have hs := Lib.hid (sm_fit hf); have hd := Lib.hid (bad_fit hf)
    have ht := mul_ok (a := a) hb0
    unfold fits at hf
    go_enter Try.func44, Try.ntmps44
    go_wp2
    go_ret2
    exact ⟨ret2_eq (int_eq hs.out.symm) (by rw [hd.out]; rfl), rfl⟩
  · have hs := Lib.hid (sm_no hf); have hd := Lib.hid (bad_no hf)
    have ht := mul_over' hb0 hb1 hB.out hf
    clear hf
    go_enter Try.func44, Try.ntmps44
    go_wp2
    go_ret2
    exact ⟨ret2_eq (int_eq hs.out.symm) (by rw [hd.out]; rfl), rfl⟩

theorem within_any (x low high : Int) (w : World) :
    Calls Try.prog 32 #[.int .i64 x, .int .i64 low, .int .i64 high] w fun e w' => e = .returned (.bool (decide (low ≤ x) && decide (x ≤ high))) ∧ w = w' := by
  by_cases h : low ≤ x
  · have hb : decide (low ≤ x) = true := by simpa using h
    go_enter Try.func32, Try.ntmps32
    go_wp2
    go_ret
    exact ⟨by simp [h], rfl⟩
  · have hb : decide (low ≤ x) = false := by simpa using h
    go_enter Try.func32, Try.ntmps32
    go_wp2
    go_ret
    exact ⟨by simp, rfl⟩

end Go.Proofs.Ytdonicaiimeleaa
