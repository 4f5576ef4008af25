/- The functions of package num, each by a contract. -/
import Derived.Test.YtbffpallhofonaaRows
import Derived.Test.YtbffpallhofonaaNumM
import Derived.WalkKit
import Derived.ProofKit
import Derived.OpenShut
import Derived.Handy
import Derived.Lib.Hide
import Derived.WalkSpells
namespace Go.Proofs.Ytbffpallhofonaa
open Go.RowKit

theorem add_any (a b : Int) (w : World) (ha : fits a) (hb : fits b) :
    Calls Try.prog 47 #[.int .i64 a, .int .i64 b] w fun e w' => e = .returned (.tuple #[.int .i64 (sm (a + b)), ev (bad (a + b))]) ∧ w = w' := by
  have ha' := ha; have hb' := hb
  unfold fits at ha hb
  by_cases hf : fits (a + b)
  · have hs := Lib.hid (sm_fit hf); have hd := Lib.hid (bad_fit hf)
    unfold fits at hf
    rcases (by omega : b > 0 ∨ b = 0 ∨ b < 0) with hb0 | hb0 | hb0
    · have h1 : ¬ (b < 0) := by omega
      have h2 : ¬ (a > 9223372036854775807 - b) := by omega
      go_enter Try.func47, Try.ntmps47
      go_wp2
      go_ret2
      exact ⟨ret2_eq (int_eq hs.out.symm) (by rw [hd.out]; rfl), rfl⟩
    · subst hb0
      go_enter Try.func47, Try.ntmps47
      go_wp2
      go_ret2
      exact ⟨ret2_eq (int_eq ((Int.add_zero a).symm.trans hs.out.symm)) (by rw [hd.out]; rfl), rfl⟩
    · have h2 : ¬ (a < -9223372036854775808 - b) := by omega
      go_enter Try.func47, Try.ntmps47
      go_wp2
      go_ret2
      exact ⟨ret2_eq (int_eq hs.out.symm) (by rw [hd.out]; rfl), rfl⟩
  · have hs := Lib.hid (sm_no hf); have hd := Lib.hid (bad_no hf)
    unfold fits at hf
    rcases (by omega : (0 < b ∧ a > 9223372036854775807 - b) ∨ (b < 0 ∧ a < -9223372036854775808 - b)) with ⟨hb0, h2⟩ | ⟨hb0, h2⟩
    · have h1 : ¬ (b < 0) := by omega
      clear hf
      go_enter Try.func47, Try.ntmps47
      go_wp2
      go_ret2
      exact ⟨ret2_eq (int_eq hs.out.symm) (by rw [hd.out]; rfl), rfl⟩
    · clear hf
      go_enter Try.func47, Try.ntmps47
      go_wp2
      go_ret2
      exact ⟨ret2_eq (int_eq hs.out.symm) (by rw [hd.out]; rfl), rfl⟩

theorem sub_any (a b : Int) (w : World) (ha : fits a) (hb : fits b) :
    Calls Try.prog 48 #[.int .i64 a, .int .i64 b] w fun e w' => e = .returned (.tuple #[.int .i64 (sm (a - b)), ev (bad (a - b))]) ∧ w = w' := by
  unfold fits at ha hb
  by_cases hf : fits (a - b)
  · have hs := Lib.hid (sm_fit hf); have hd := Lib.hid (bad_fit hf)
    unfold fits at hf
    rcases (by omega : b > 0 ∨ b = 0 ∨ b < 0) with hb0 | hb0 | hb0
    · have h1 : ¬ (b < 0) := by omega
      have h2 : ¬ (a < -9223372036854775808 + b) := by omega
      go_enter Try.func48, Try.ntmps48
      go_wp2
      go_ret2
      exact ⟨ret2_eq (int_eq hs.out.symm) (by rw [hd.out]; rfl), rfl⟩
    · subst hb0
      go_enter Try.func48, Try.ntmps48
      go_wp2
      go_ret2
      exact ⟨ret2_eq (int_eq ((Int.sub_zero a).symm.trans hs.out.symm)) (by rw [hd.out]; rfl), rfl⟩
    · have h2 : ¬ (a > 9223372036854775807 + b) := by omega
      go_enter Try.func48, Try.ntmps48
      go_wp2
      go_ret2
      exact ⟨ret2_eq (int_eq hs.out.symm) (by rw [hd.out]; rfl), rfl⟩
  · have hs := Lib.hid (sm_no hf); have hd := Lib.hid (bad_no hf)
    unfold fits at hf
    rcases (by omega : (0 < b ∧ a < -9223372036854775808 + b) ∨ (b < 0 ∧ a > 9223372036854775807 + b)) with ⟨hb0, h2⟩ | ⟨hb0, h2⟩
    · have h1 : ¬ (b < 0) := by omega
      clear hf
      go_enter Try.func48, Try.ntmps48
      go_wp2
      go_ret2
      exact ⟨ret2_eq (int_eq hs.out.symm) (by rw [hd.out]; rfl), rfl⟩
    · clear hf
      go_enter Try.func48, Try.ntmps48
      go_wp2
      go_ret2
      exact ⟨ret2_eq (int_eq hs.out.symm) (by rw [hd.out]; rfl), rfl⟩

theorem within_any (x low high : Int) (w : World) :
    Calls Try.prog 57 #[.int .i64 x, .int .i64 low, .int .i64 high] w fun e w' => e = .returned (.bool (decide (low ≤ x) && decide (x ≤ high))) ∧ w = w' := by
  by_cases h : low ≤ x
  · have hb : decide (low ≤ x) = true := by simpa using h
    go_enter Try.func57, Try.ntmps57
    go_wp2
    go_ret
    exact ⟨by simp [h], rfl⟩
  · have hb : decide (low ≤ x) = false := by simpa using h
    go_enter Try.func57, Try.ntmps57
    go_wp2
    go_ret
    exact ⟨by simp, rfl⟩

end Go.Proofs.Ytbffpallhofonaa
