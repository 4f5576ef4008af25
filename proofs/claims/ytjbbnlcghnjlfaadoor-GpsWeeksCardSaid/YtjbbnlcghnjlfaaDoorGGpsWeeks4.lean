/- Merged: NumA. -/
import Derived.Test.YtjbbnlcghnjlfaaDoorRows
import Derived.Test.YtjbbnlcghnjlfaaDoorGGpsWeeks1
import Derived.WalkKit
import Derived.ProofKit
import Derived.OpenShut
import Derived.Handy
import Derived.Lib.Hide
import Derived.WalkSpells
namespace Go.Proofs.YtjbbnlcghnjlfaaDoor
open Go.RowKit

theorem add_any (a b : Int) (w : World) (ha : fits a) (hb : fits b) :
    Calls Tryd.prog 48 #[.int .i64 a, .int .i64 b] w fun e w' => e = .returned (.tuple #[.int .i64 (sm (a + b)), ev (bad (a + b))]) ∧ w = w' := by
  have ha' := ha; have hb' := hb
  unfold fits at ha hb
  by_cases hf : fits (a + b)
  · have hs := Lib.hid (sm_fit hf); have hd := Lib.hid (bad_fit hf)
    unfold fits at hf
    rcases (by omega : b > 0 ∨ b = 0 ∨ b < 0) with hb0 | hb0 | hb0
    · have h1 : ¬ (b < 0) := by omega
      have h2 : ¬ (a > 9223372036854775807 - b) := by omega
      go_enter Tryd.func48, Tryd.ntmps48
      go_wp2
      go_ret2
      exact ⟨ret2_eq (int_eq hs.out.symm) (by rw [hd.out]; rfl), rfl⟩
    · subst hb0
      go_enter Tryd.func48, Tryd.ntmps48
      go_wp2
      go_ret2
      exact ⟨ret2_eq (int_eq ((Int.add_zero a).symm.trans hs.out.symm)) (by rw [hd.out]; rfl), rfl⟩
    · have h2 : ¬ (a < -9223372036854775808 - b) := by omega
      go_enter Tryd.func48, Tryd.ntmps48
      go_wp2
      go_ret2
      exact ⟨ret2_eq (int_eq hs.out.symm) (by rw [hd.out]; rfl), rfl⟩
  · have hs := Lib.hid (sm_no hf); have hd := Lib.hid (bad_no hf)
    unfold fits at hf
    rcases (by omega : (0 < b ∧ a > 9223372036854775807 - b) ∨ (b < 0 ∧ a < -9223372036854775808 - b)) with ⟨hb0, h2⟩ | ⟨hb0, h2⟩
    · have h1 : ¬ (b < 0) := by omega
      clear hf
      go_enter Tryd.func48, Tryd.ntmps48
      go_wp2
      go_ret2
      exact ⟨ret2_eq (int_eq hs.out.symm) (by rw [hd.out]; rfl), rfl⟩
    · clear hf
      go_enter Tryd.func48, Tryd.ntmps48
      go_wp2
      go_ret2
      exact ⟨ret2_eq (int_eq hs.out.symm) (by rw [hd.out]; rfl), rfl⟩

theorem sub_any (a b : Int) (w : World) (ha : fits a) (hb : fits b) :
    Calls Tryd.prog 17 #[.int .i64 a, .int .i64 b] w fun e w' => e = .returned (.tuple #[.int .i64 (sm (a - b)), ev (bad (a - b))]) ∧ w = w' := by
  unfold fits at ha hb
  by_cases hf : fits (a - b)
  · have hs := Lib.hid (sm_fit hf); have hd := Lib.hid (bad_fit hf)
    unfold fits at hf
    rcases (by omega : b > 0 ∨ b = 0 ∨ b < 0) with hb0 | hb0 | hb0
    · have h1 : ¬ (b < 0) := by omega
      have h2 : ¬ (a < -9223372036854775808 + b) := by omega
      go_enter Tryd.func17, Tryd.ntmps17
      go_wp2
      go_ret2
      exact ⟨ret2_eq (int_eq hs.out.symm) (by rw [hd.out]; rfl), rfl⟩
    · subst hb0
      go_enter Tryd.func17, Tryd.ntmps17
      go_wp2
      go_ret2
      exact ⟨ret2_eq (int_eq ((Int.sub_zero a).symm.trans hs.out.symm)) (by rw [hd.out]; rfl), rfl⟩
    · have h2 : ¬ (a > 9223372036854775807 + b) := by omega
      go_enter Tryd.func17, Tryd.ntmps17
      go_wp2
      go_ret2
      exact ⟨ret2_eq (int_eq hs.out.symm) (by rw [hd.out]; rfl), rfl⟩
  · have hs := Lib.hid (sm_no hf); have hd := Lib.hid (bad_no hf)
    unfold fits at hf
    rcases (by omega : (0 < b ∧ a < -9223372036854775808 + b) ∨ (b < 0 ∧ a > 9223372036854775807 + b)) with ⟨hb0, h2⟩ | ⟨hb0, h2⟩
    · have h1 : ¬ (b < 0) := by omega
      clear hf
      go_enter Tryd.func17, Tryd.ntmps17
      go_wp2
      go_ret2
      exact ⟨ret2_eq (int_eq hs.out.symm) (by rw [hd.out]; rfl), rfl⟩
    · clear hf
      go_enter Tryd.func17, Tryd.ntmps17
      go_wp2
      go_ret2
      exact ⟨ret2_eq (int_eq hs.out.symm) (by rw [hd.out]; rfl), rfl⟩

theorem neg_any (a : Int) (w : World) (ha : fits a) :
    Calls Tryd.prog 47 #[.int .i64 a] w fun e w' => e = .returned (.tuple #[.int .i64 (sm (-a)), ev (bad (-a))]) ∧ w = w' := by
  unfold fits at ha
  by_cases hf : fits (-a)
  · have hs := Lib.hid (sm_fit hf); have hd := Lib.hid (bad_fit hf)
    unfold fits at hf
    have h1 : ¬ (a = -9223372036854775808) := by omega
    go_enter Tryd.func47, Tryd.ntmps47
    go_wp2
    go_ret2
    exact ⟨ret2_eq (int_eq hs.out.symm) (by rw [hd.out]; rfl), rfl⟩
  · have hs := Lib.hid (sm_no hf); have hd := Lib.hid (bad_no hf)
    unfold fits at hf
    obtain rfl : a = -9223372036854775808 := by omega
    clear hf
    go_enter Tryd.func47, Tryd.ntmps47
    go_wp2
    go_ret2
    exact ⟨ret2_eq (int_eq hs.out.symm) (by rw [hd.out]; rfl), rfl⟩

theorem mul_any (a b : Int) (w : World) (ha : fits a) (hb : fits b) :
    Calls Tryd.prog 27 #[.int .i64 a, .int .i64 b] w fun e w' => e = .returned (.tuple #[.int .i64 (sm (a * b)), ev (bad (a * b))]) ∧ w = w' := by
  have hA := Lib.hid ha; have hB := Lib.hid hb
  unfold fits at ha hb
  by_cases hb0 : b = 0
  · subst hb0
    go_enter Tryd.func27, Tryd.ntmps27
    go_wp2
    go_ret2
    exact ⟨ret2_eq (int_eq (by rw [Int.mul_zero]; rfl)) (by rw [Int.mul_zero]; rfl), rfl⟩
  by_cases hb1 : b = -1
  · subst hb1
    go_enter Tryd.func27, Tryd.ntmps27
    go_wp2_with (go_at_call 47; refine (neg_any _ _ hA.out).mono ?_; rintro e w' ⟨rfl, rfl⟩)
    go_ret2
    have he : -a = a * -1 := by omega
    exact ⟨ret2_eq (int_eq (congrArg sm he)) (congrArg (fun z => ev (bad z)) he), rfl⟩
  by_cases hf : fits (a * b)
  · have hs := Lib.hid (sm_fit hf); have hd := Lib.hid (bad_fit hf)
    have ht := mul_ok (a := a) hb0
    unfold fits at hf
    go_enter Tryd.func27, Tryd.ntmps27
    go_wp2
    go_ret2
    exact ⟨ret2_eq (int_eq hs.out.symm) (by rw [hd.out]; rfl), rfl⟩
  · have hs := Lib.hid (sm_no hf); have hd := Lib.hid (bad_no hf)
    have ht := mul_over' hb0 hb1 hB.out hf
    clear hf
    go_enter Tryd.func27, Tryd.ntmps27
    go_wp2
    go_ret2
    exact ⟨ret2_eq (int_eq hs.out.symm) (by rw [hd.out]; rfl), rfl⟩

/-- What Div answers: the quotient rounded down. -/
theorem div_any (a b : Int) (w : World) (ha : fits a) (hb : fits b) (hb0 : b ≠ 0) :
    Calls Tryd.prog 39 #[.int .i64 a, .int .i64 b] w fun e w' => e = .returned (.tuple #[.int .i64 (sm (a.fdiv b)), ev (bad (a.fdiv b))]) ∧ w = w' := by
  have hA := Lib.hid ha; have hB := Lib.hid hb
  unfold fits at ha hb
  by_cases hb1 : b = -1
  · subst hb1
    have hq : a.fdiv (-1) = -a := (fdiv_is (q := -a) (r := 0) (by omega) (by omega)).1
    have HQ := Lib.hid hq; clear hq
    go_enter Tryd.func39, Tryd.ntmps39
    go_wp2_with (go_at_call 47; refine (neg_any _ _ hA.out).mono ?_; rintro e w' ⟨rfl, rfl⟩)
    go_ret2
    exact ⟨ret2_eq (int_eq (congrArg sm HQ.out.symm)) (congrArg (fun z => ev (bad z)) HQ.out.symm), rfl⟩
  have hf := Lib.hid (tdiv_fit hA.out hb0 hb1)
  have hw := Lib.hid (wrap64_fit (tdiv_fit hA.out hb0 hb1))
  have hr := wrap64_fit (tmod_fit hA.out hB.out hb0)
  by_cases h : a.tmod b = 0 ∨ (a < 0 ↔ b < 0)
  · have he := Lib.hid (fdiv_same hb0 h).1
    have hs := Lib.hid (sm_fit hf.out); have hd := Lib.hid (bad_fit hf.out)
    have fin : Ending.returned (.tuple #[.int .i64 (wrap64 (a.tdiv b)), .nilIface]) = Ending.returned (.tuple #[.int .i64 (sm (a.fdiv b)), ev (bad (a.fdiv b))]) :=
      ret2_eq (int_eq (by rw [he.out, hs.out, hw.out])) (by rw [he.out, hd.out]; rfl)
    have FIN := Lib.hid fin; clear fin
    by_cases h0 : a.tmod b = 0
    · clear h
      go_enter Tryd.func39, Tryd.ntmps39
      go_wp2
      go_ret2
      exact ⟨FIN.out, rfl⟩
    · rcases h with h | h
      · exact absurd h h0
      rcases signs_same h with ⟨h1, h2⟩ | ⟨h1, h2⟩
      all_goals
        clear h
        go_enter Tryd.func39, Tryd.ntmps39
        go_wp2
        go_ret2
        exact ⟨FIN.out, rfl⟩
  · have h0 : ¬ a.tmod b = 0 := fun e => h (.inl e)
    have h' : ¬ (a < 0 ↔ b < 0) := fun e => h (.inr e)
    clear h
    have he := Lib.hid (fdiv_other hb0 h0 h').1
    have hg := Lib.hid (tdiv_lo hA.out hb0 h0)
    have hs := Lib.hid (sm_fit hg.out); have hd := Lib.hid (bad_fit hg.out)
    have hw2 := Lib.hid (wrap64_fit hg.out)
    have fin : Ending.returned (.tuple #[.int .i64 (wrap64 (wrap64 (a.tdiv b) - 1)), .nilIface]) = Ending.returned (.tuple #[.int .i64 (sm (a.fdiv b)), ev (bad (a.fdiv b))]) :=
      ret2_eq (int_eq (by rw [he.out, hs.out, hw.out, hw2.out])) (by rw [he.out, hd.out]; rfl)
    have FIN := Lib.hid fin; clear fin
    rcases signs_other h' with ⟨h1, h2⟩ | ⟨h1, h2⟩
    all_goals
      clear h'
      go_enter Tryd.func39, Tryd.ntmps39
      go_wp2
      go_ret2
      exact ⟨FIN.out, rfl⟩

theorem mod_any (a b : Int) (w : World) (ha : fits a) (hb : fits b) (hb0 : b ≠ 0) :
    Calls Tryd.prog 40 #[.int .i64 a, .int .i64 b] w fun e w' => e = .returned (.tuple #[.int .i64 (a.fmod b), .nilIface]) ∧ w = w' := by
  have hA := Lib.hid ha; have hB := Lib.hid hb
  unfold fits at ha hb
  have hr := wrap64_fit (tmod_fit hA.out hB.out hb0)
  by_cases h : a.tmod b = 0 ∨ (a < 0 ↔ b < 0)
  · have he := Lib.hid (fdiv_same hb0 h).2
    have fin : Ending.returned (.tuple #[.int .i64 (a.tmod b), .nilIface]) = Ending.returned (.tuple #[.int .i64 (a.fmod b), .nilIface]) :=
      ret2_eq (int_eq (by rw [he.out])) rfl
    have FIN := Lib.hid fin; clear fin
    by_cases h0 : a.tmod b = 0
    · clear h
      have h00 : (a.tmod b != 0) = false := by rw [h0]; rfl
      go_enter Tryd.func40, Tryd.ntmps40
      go_wp2
      go_ret2
      exact ⟨by rw [← FIN.out]; exact ret2_eq (int_eq h0.symm) rfl, rfl⟩
    · rcases h with h | h
      · exact absurd h h0
      rcases signs_same_mod hb0 h0 h with ⟨h1, h2⟩ | ⟨h1, h2⟩
      all_goals
        clear h
        have h00 : (a.tmod b != 0) = true := bne_iff_ne.mpr h0
        go_enter Tryd.func40, Tryd.ntmps40
        go_wp2
        go_ret2
        exact ⟨FIN.out, rfl⟩
  · have h0 : ¬ a.tmod b = 0 := fun e => h (.inl e)
    have h' : ¬ (a < 0 ↔ b < 0) := fun e => h (.inr e)
    clear h
    have he := Lib.hid (fdiv_other hb0 h0 h').2
    have hg := Lib.hid (fmod_fit hB.out hb0 (a := a))
    have hw2 := Lib.hid (wrap64_fit hg.out)
    have fin : Ending.returned (.tuple #[.int .i64 (wrap64 (a.tmod b + b)), .nilIface]) = Ending.returned (.tuple #[.int .i64 (a.fmod b), .nilIface]) :=
      ret2_eq (int_eq (by rw [← hw2.out, he.out])) rfl
    have FIN := Lib.hid fin; clear fin
    rcases signs_other_mod hb0 h0 h' with ⟨h1, h2⟩ | ⟨h1, h2⟩
    all_goals
      clear h'
      have h00 : (a.tmod b != 0) = true := bne_iff_ne.mpr h0
      go_enter Tryd.func40, Tryd.ntmps40
      go_wp2
      go_ret2
      exact ⟨FIN.out, rfl⟩

end Go.Proofs.YtjbbnlcghnjlfaaDoor
