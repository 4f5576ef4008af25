/- The statements WeekDays, WeekYears, WeekTexts; a fixed fact. -/
import Derived.Test.YtplibjgfdnbifaaDoorWeekR
import Derived.Test.YtplibjgfdnbifaaDoorTabs
import Derived.BigQuiet
namespace Go.Proofs.YtplibjgfdnbifaaDoor
open Go.RowKit
set_option linter.unusedVariables false

/-! ### the document's Parse: what is no day -/
set_option maxRecDepth 100000 in
set_option maxHeartbeats 4000000 in
theorem rparse_n_no (s X : ByteArray) (w : World) (hs : s.size ≤ 1000) (hX : X.size ≤ 1000) (hno : lead X.data.toList < 4 ∨ 5 < lead X.data.toList ∨ X.size ≠ lead X.data.toList + 6)
    (hp : 0 < s.size) (h45 : ((s[0].toNat : Int) == 45) = true) (hex : s.extract 1 s.size = X) :
    Calls Tryd.prog 23 #[.string s] w fun e w' => e = .returned (.tuple #[.int .i64 0, .int .i64 2]) ∧ Below w.heap.size w w' := by
  have hM := Lib.hid (fun w => many_any X w (by unfold maxLen; omega))
  have hle := lead_le X.data.toList
  have hsz : X.data.toList.length = X.size := by simp
  rw [hsz] at hle
  clear hsz
  generalize lead X.data.toList = k at *
  have hps : (s.size : Int) > 0 := by omega
  rcases (by omega : (k : Int) < 4 ∨ (¬ (k : Int) < 4 ∧ (k : Int) > 5) ∨ (¬ (k : Int) < 4 ∧ ¬ (k : Int) > 5 ∧ (X.size : Int) ≠ (k : Int) + 6)) with a | ⟨a, b⟩ | ⟨a, b, c⟩
  case' inr.inr => have c1 : ((X.size : Int) != (k : Int) + 6) = true := bne_iff_ne.2 c
  all_goals
    clear hno
    go_enter Tryd.func23, Tryd.ntmps23
    go_wp2_with (go_at_call 40; refine (hM.out _).mono ?_; rintro e w' ⟨rfl, rfl⟩)
    go_ret2
    exact ⟨rfl, Below.refl _ _⟩
set_option maxRecDepth 100000 in
set_option maxHeartbeats 4000000 in
theorem rparse_p_no (X : ByteArray) (w : World) (hX : X.size ≤ 1000) (hno : lead X.data.toList < 4 ∨ 5 < lead X.data.toList ∨ X.size ≠ lead X.data.toList + 6)
    (hp : 0 < X.size) (h45 : ((X[0].toNat : Int) == 45) = false) :
    Calls Tryd.prog 23 #[.string X] w fun e w' => e = .returned (.tuple #[.int .i64 0, .int .i64 2]) ∧ Below w.heap.size w w' := by
  have hM := Lib.hid (fun w => many_any X w (by unfold maxLen; omega))
  have hle := lead_le X.data.toList
  have hsz : X.data.toList.length = X.size := by simp
  rw [hsz] at hle
  clear hsz
  generalize lead X.data.toList = k at *
  have hps : (X.size : Int) > 0 := by omega
  rcases (by omega : (k : Int) < 4 ∨ (¬ (k : Int) < 4 ∧ (k : Int) > 5) ∨ (¬ (k : Int) < 4 ∧ ¬ (k : Int) > 5 ∧ (X.size : Int) ≠ (k : Int) + 6)) with a | ⟨a, b⟩ | ⟨a, b, c⟩
  case' inr.inr => have c1 : ((X.size : Int) != (k : Int) + 6) = true := bne_iff_ne.2 c
  all_goals
    clear hno
    go_enter Tryd.func23, Tryd.ntmps23
    go_wp2_with (go_at_call 40; refine (hM.out _).mono ?_; rintro e w' ⟨rfl, rfl⟩)
    go_ret2
    exact ⟨rfl, Below.refl _ _⟩
theorem rparse_nil (X : ByteArray) (w : World) (hX : X.size = 0) :
    Calls Tryd.prog 23 #[.string X] w fun e w' => e = .returned (.tuple #[.int .i64 0, .int .i64 2]) ∧ Below w.heap.size w w' := by
  have hM := fun w => many_any X w (by rw [hX]; decide)
  have hz : X.data.toList = [] := List.eq_nil_of_length_eq_zero (by simpa using hX)
  rw [hz] at hM
  have hM : RowKit.Hid (∀ w, Calls Tryd.prog 40 #[.string X] w fun e w' => e = .returned (.int .i64 0) ∧ w = w') := Lib.hid hM
  have hz2 : ¬ ((X.size : Int) > 0) := by omega
  clear hz hX
  go_enter Tryd.func23, Tryd.ntmps23
  go_wp2_with (go_at_call 40; refine (hM.out _).mono ?_; rintro e w' ⟨rfl, rfl⟩)
  go_ret2
  exact ⟨rfl, Below.refl _ _⟩

theorem rwparse_any (s : ByteArray) (w : World) (hs : s.size ≤ 1000) :
    Calls Tryd.prog 23 #[.string s] w fun e w' => e = .returned (.tuple #[.int .i64 (paN s.data.toList), .int .i64 (paE s.data.toList)]) ∧ Below w.heap.size w w' := by
  have no : ∀ X : ByteArray, bd s.data.toList = X.data.toList → (lead X.data.toList < 4 ∨ 5 < lead X.data.toList ∨ X.size ≠ lead X.data.toList + 6) → paN s.data.toList = 0 ∧ paE s.data.toList = 2 := fun X e h => by
    have hl : X.data.toList.length = X.size := by simp
    exact pa_no (good_no (by unfold yl; rw [e]; omega))
  rcases sign_is s with ⟨hz, _, e⟩ | ⟨hp, ⟨h45, hg, e⟩ | ⟨h45, hg, e⟩⟩
  · have hn : s.data.toList = [] := List.eq_nil_of_length_eq_zero (by simpa using hz)
    obtain ⟨e1, e2⟩ := no s e (Or.inl (by rw [hn]; decide))
    rw [e1, e2]
    exact rparse_nil s w hz
  · have hle : (s.extract 1 s.size).size ≤ 1000 := by rw [ByteArray.size_extract]; omega
    by_cases c : lead (s.extract 1 s.size).data.toList < 4 ∨ 5 < lead (s.extract 1 s.size).data.toList ∨ (s.extract 1 s.size).size ≠ lead (s.extract 1 s.size).data.toList + 6
    · obtain ⟨e1, e2⟩ := no _ e c
      rw [e1, e2]
      exact rparse_n_no s _ w hs hle c hp h45 rfl
    · rcases (by omega : lead (s.extract 1 s.size).data.toList = 4 ∨ lead (s.extract 1 s.size).data.toList = 5) with k | k
      · exact rparse_n4 s _ w hs k (by omega) e hg hp h45 rfl
      · exact rparse_n5 s _ w hs k (by omega) e hg hp h45 rfl
  · by_cases c : lead s.data.toList < 4 ∨ 5 < lead s.data.toList ∨ s.size ≠ lead s.data.toList + 6
    · obtain ⟨e1, e2⟩ := no s e c
      rw [e1, e2]
      exact rparse_p_no s w hs c hp h45
    · rcases (by omega : lead s.data.toList = 4 ∨ lead s.data.toList = 5) with k | k
      · exact rparse_p4 s s w hs k (by omega) e hg hp h45 rfl
      · exact rparse_p5 s s w hs k (by omega) e hg hp h45 rfl

/-! ### a fixed fact -/
theorem fixed : Wk 18628 2020 ∧ wn 18628 2020 = 53 ∧ wd 18628 = 5 := by unfold Wk; decide
theorem fixed_text : pwL 2020 53 5 = [50, 48, 50, 48, 45, 87, 53, 51, 45, 53] := by decide +kernel
theorem walive_any (w : World) (he : Ends w) (ht : Tab w) : Calls Tryd.prog 7 #[] w fun e w' => e = .returned (.bool true) ∧ Below w.heap.size w w' := by
  obtain ⟨f1, f2, f3⟩ := fixed
  have hP := wput_some 18628 2020 w (by decide) (by decide) f1 (by decide) he ht
  obtain ⟨e1, e2, -⟩ := paE_put (n := 18628) (Y := 2020) f1 (by decide) (by decide) (by decide)
  rw [f2, f3, fixed_text] at hP e1 e2
  have hQ := fun w => wparse_any ⟨#[50, 48, 50, 48, 45, 87, 53, 51, 45, 53]⟩ w (by decide)
  rw [show (⟨#[50, 48, 50, 48, 45, 87, 53, 51, 45, 53]⟩ : ByteArray).data.toList = [50, 48, 50, 48, 45, 87, 53, 51, 45, 53] from rfl, e1, e2] at hQ
  have HP : RowKit.Hid (Calls Tryd.prog 9 #[.int .i64 18628] w fun e w' => e = .returned (.tuple #[.string ⟨#[50, 48, 50, 48, 45, 87, 53, 51, 45, 53]⟩, ev 0]) ∧ Below w.heap.size w w') := Lib.hid hP
  have HQ := Lib.hid hQ
  clear hP hQ e1 e2 f1 f2 f3 he ht
  have q0 := fun op t W x k => guard_ev op t W x k
  have q1 := fun W k => eql_ev W k
  go_enter Tryd.func7, Tryd.ntmps7
  go_wp2_with fail
  refine HP.out.mono ?_
  rintro e w1 ⟨rfl, hb⟩
  have B1 := Lib.hid hb; clear hb
  go_wp2_with fail
  refine (HQ.out _).mono ?_
  rintro e w2 ⟨rfl, hb⟩
  have B2 := Lib.hid (B1.out.trans (hb.mono B1.out.size)); clear hb
  go_wp2_with fail
  go_ret
  exact ⟨rfl, B2.out⟩

/-! ### the statements -/
set_option maxRecDepth 100000 in
set_option maxHeartbeats 4000000 in
theorem days_walk (n : Int) (w : World) (he : Ends w) (ht : Tab w) :
    Calls Tryd.prog 3 #[.int .i64 n] w fun e w' => e = .returned (.bool true) ∧ Below w.heap.size w w' := by
  have HA := Lib.hid (walive_any w he ht)
  have E0 := Lib.hid he; have T0 := Lib.hid ht
  clear he ht
  have q0 := fun op t W x k => guard_ev op t W x k
  have q1 := fun W k => eql_ev W k
  by_cases g : n < -4371587 ∨ 2932896 < n
  · have HO := Lib.hid (fun w => wof_none n w g)
    have HP := Lib.hid (fun w => wput_none n w g)
    have hF := Lib.hid (fun w => rfirst_any w)
    have hL := Lib.hid (fun w => rlast_any w)
    rcases (by omega : n < -4371587 ∨ (¬ n < -4371587 ∧ n > 2932896)) with h | ⟨h, h'⟩
    all_goals
      clear g
      go_enter Tryd.func3, Tryd.ntmps3
      go_wp2_with fail
      refine HA.out.mono ?_
      rintro e w1 ⟨rfl, hb⟩
      have B1 := Lib.hid hb; clear hb
      go_wp2_with (first
        | (go_at_call 8; refine (HO.out _).mono ?_; rintro e w' ⟨rfl, rfl⟩)
        | (go_at_call 9; refine (HP.out _).mono ?_; rintro e w' ⟨rfl, rfl⟩)
        | (go_at_call 10; refine (hF.out _).mono ?_; rintro e w' ⟨rfl, rfl⟩)
        | (go_at_call 11; refine (hL.out _).mono ?_; rintro e w' ⟨rfl, rfl⟩)
        | (go_at_call 12; refine (is_any _ _ _ (by decide) (by decide)).mono ?_; rintro e w' ⟨rfl, rfl⟩))
      go_ret
      exact ⟨rfl, B1.out⟩
  · obtain ⟨Y, hY, hy1, hy2⟩ := wk_some (n := n) (by omega) (by omega)
    have HO := Lib.hid (fun w he => wof_some n Y w (by omega) (by omega) hY he)
    have HP := Lib.hid (fun w he ht => wput_some n Y w (by omega) (by omega) hY ⟨hy1, hy2⟩ he ht)
    have HR := Lib.hid (fun w => rwof_some n Y w (by omega) (by omega) hY ⟨hy1, hy2⟩)
    have a := wn_bd hY; have b := wk_bd Y; have c := wd_in n
    have HS := Lib.hid (fun w => rwput_any Y (wn n Y) (wd n) w (fit_small (by omega) (by omega)) (fit_small (by omega) (by omega)) (fit_small (by omega) (by omega)))
    have hF := Lib.hid (fun w => rfirst_any w)
    have hL := Lib.hid (fun w => rlast_any w)
    have h1 : ¬ n < -4371587 := by omega
    have h2 : ¬ n > 2932896 := by omega
    clear g hY a b c
    generalize pwL Y (wn n Y) (wd n) = L at *
    generalize wn n Y = k at *
    generalize wd n = v at *
    go_enter Tryd.func3, Tryd.ntmps3
    go_wp2_with fail
    refine HA.out.mono ?_
    rintro e w1 ⟨rfl, hb⟩
    have B1 := Lib.hid hb
    have E1 := Lib.hid (E0.out.below hb); have T1 := Lib.hid (T0.out.below hb); clear hb
    go_wp2_with fail
    refine (HO.out _ E1.out).mono ?_
    rintro e w2 ⟨rfl, hb⟩
    have B2 := Lib.hid (B1.out.trans (hb.mono B1.out.size))
    have E2 := Lib.hid (E1.out.below hb); have T2 := Lib.hid (T1.out.below hb); clear hb
    go_wp2_with fail
    refine (HP.out _ E2.out T2.out).mono ?_
    rintro e w3 ⟨rfl, hb⟩
    have B3 := Lib.hid (B2.out.trans (hb.mono B2.out.size)); clear hb
    go_wp2_with (first
      | (go_at_call 10; refine (hF.out _).mono ?_; rintro e w' ⟨rfl, rfl⟩)
      | (go_at_call 11; refine (hL.out _).mono ?_; rintro e w' ⟨rfl, rfl⟩))
    refine (HR.out _).mono ?_
    rintro e w4 ⟨rfl, hb⟩
    have B4 := Lib.hid (B3.out.trans (hb.mono B3.out.size)); clear hb
    go_wp2_with fail
    refine (HS.out _).mono ?_
    rintro e w5 ⟨rfl, hb⟩
    have B5 := Lib.hid (B4.out.trans (hb.mono B4.out.size)); clear hb
    go_wp2_with fail
    go_ret
    exact ⟨rfl, B5.out⟩

set_option maxRecDepth 100000 in
set_option maxHeartbeats 4000000 in
theorem years_walk (y k d : Int) (w : World) (he : Ends w) (ht : Tab w) :
    Calls Tryd.prog 4 #[.int .i64 y, .int .i64 k, .int .i64 d] w fun e w' => e = .returned (.bool true) ∧ Below w.heap.size w w' := by
  have HA := Lib.hid (walive_any w he ht)
  clear he ht
  have q0 := fun op t W x k => guard_ev op t W x k
  have q1 := fun W k => eql_ev W k
  have HD := Lib.hid (fun w => wday_any y k d w)
  have HW := fun w => weeks_any y w
  have HM := fun w => Monday_any y w
  have HR := Lib.hid (fun w => rwday_any y k d w)
  have eb : 0 ≤ wkE y k d ∧ wkE y k d < 100 := by rcases wdE_cases y k d with e | e | e <;> (rw [e]; decide)
  generalize wkE y k d = E at *
  generalize wkN y k d = N at *
  by_cases c : isw y
  · rw [show wkR y = wk y from if_pos c, show cw y = 0 from if_pos c] at HW
    rw [show moR y = mo y from if_pos c, show cw y = 0 from if_pos c] at HM
    unfold isw at c
    have HV := Lib.hid (fun w => rweeks_any y w (by omega) (by omega))
    have HU := Lib.hid (fun w => rmonday_any y w (by omega) (by omega))
    have c1 : ¬ y < -10000 := by omega
    have c2 : ¬ y > 10000 := by omega
    clear c
    have HW := Lib.hid HW; have HM := Lib.hid HM
    generalize wk y = K at *
    generalize mo y = M at *
    go_enter Tryd.func4, Tryd.ntmps4
    go_wp2_with fail
    refine HA.out.mono ?_
    rintro e w1 ⟨rfl, hb⟩
    have B1 := Lib.hid hb; clear hb
    go_wp2_with (first
      | (go_at_call 15; refine (HD.out _).mono ?_; rintro e w' ⟨rfl, rfl⟩)
      | (go_at_call 16; refine (HW.out _).mono ?_; rintro e w' ⟨rfl, rfl⟩)
      | (go_at_call 17; refine (HM.out _).mono ?_; rintro e w' ⟨rfl, rfl⟩))
    refine (HR.out _).mono ?_
    rintro e w2 ⟨rfl, hb⟩
    have B2 := Lib.hid (B1.out.trans (hb.mono B1.out.size)); clear hb
    go_wp2_with (go_at_call 19; refine (num_any _ _ eb.1 eb.2).mono ?_; rintro e w' ⟨rfl, rfl⟩)
    refine (HV.out _).mono ?_
    rintro e w3 ⟨rfl, hb⟩
    have B3 := Lib.hid (B2.out.trans (hb.mono B2.out.size)); clear hb
    go_wp2_with fail
    refine (HU.out _).mono ?_
    rintro e w4 ⟨rfl, hb⟩
    have B4 := Lib.hid (B3.out.trans (hb.mono B3.out.size)); clear hb
    go_wp2_with fail
    go_ret
    exact ⟨rfl, B4.out⟩
  · rw [show wkR y = 0 from if_neg c, show cw y = 13 from if_neg c] at HW
    rw [show moR y = 0 from if_neg c, show cw y = 13 from if_neg c] at HM
    unfold isw at c
    have HW := Lib.hid HW; have HM := Lib.hid HM
    rcases (by omega : y < -10000 ∨ (¬ y < -10000 ∧ y > 10000)) with h | ⟨h, h'⟩
    all_goals
      clear c
      go_enter Tryd.func4, Tryd.ntmps4
      go_wp2_with fail
      refine HA.out.mono ?_
      rintro e w1 ⟨rfl, hb⟩
      have B1 := Lib.hid hb; clear hb
      go_wp2_with (first
        | (go_at_call 15; refine (HD.out _).mono ?_; rintro e w' ⟨rfl, rfl⟩)
        | (go_at_call 16; refine (HW.out _).mono ?_; rintro e w' ⟨rfl, rfl⟩)
        | (go_at_call 17; refine (HM.out _).mono ?_; rintro e w' ⟨rfl, rfl⟩))
      refine (HR.out _).mono ?_
      rintro e w2 ⟨rfl, hb⟩
      have B2 := Lib.hid (B1.out.trans (hb.mono B1.out.size)); clear hb
      go_wp2_with (first
        | (go_at_call 19; refine (num_any _ _ eb.1 eb.2).mono ?_; rintro e w' ⟨rfl, rfl⟩)
        | (go_at_call 12; refine (is_any _ _ _ (by decide) (by decide)).mono ?_; rintro e w' ⟨rfl, rfl⟩))
      go_ret
      exact ⟨rfl, B2.out⟩

theorem paE_bd (l : List UInt8) : 0 ≤ paE l ∧ paE l < 100 := by
  unfold paE; split
  · rcases wdE_cases (gY l) (gW l) (gD l) with e | e | e <;> (rw [e]; decide)
  · decide

set_option maxRecDepth 100000 in
set_option maxHeartbeats 4000000 in
theorem texts_walk (s : ByteArray) (w : World) (he : Ends w) (ht : Tab w) (hs : s.size ≤ maxLen) :
    Calls Tryd.prog 5 #[.string s] w fun e w' => e = .returned (.bool true) ∧ Below w.heap.size w w' := by
  have HA := Lib.hid (walive_any w he ht)
  clear he ht
  unfold maxLen at hs
  have q0 := fun op t W x k => guard_ev op t W x k
  have q1 := fun W k => eql_ev W k
  by_cases g : (s.size : Int) > 100
  · go_enter Tryd.func5, Tryd.ntmps5
    go_wp2_with fail
    refine HA.out.mono ?_
    rintro e w1 ⟨rfl, hb⟩
    have B1 := Lib.hid hb; clear hb
    go_wp2_with fail
    go_ret
    exact ⟨rfl, B1.out⟩
  · have HP := Lib.hid (fun w => wparse_any s w (by omega))
    have HR := Lib.hid (fun w => rwparse_any s w (by omega))
    have eb := paE_bd s.data.toList
    generalize paE s.data.toList = E at *
    generalize paN s.data.toList = N at *
    go_enter Tryd.func5, Tryd.ntmps5
    go_wp2_with fail
    refine HA.out.mono ?_
    rintro e w1 ⟨rfl, hb⟩
    have B1 := Lib.hid hb; clear hb
    go_wp2_with fail
    refine (HP.out _).mono ?_
    rintro e w2 ⟨rfl, hb⟩
    have B2 := Lib.hid (B1.out.trans (hb.mono B1.out.size)); clear hb
    go_wp2_with fail
    refine (HR.out _).mono ?_
    rintro e w3 ⟨rfl, hb⟩
    have B3 := Lib.hid (B2.out.trans (hb.mono B2.out.size)); clear hb
    go_wp2_with (go_at_call 19; refine (num_any _ _ eb.1 eb.2).mono ?_; rintro e w' ⟨rfl, rfl⟩)
    go_ret
    exact ⟨rfl, B3.out⟩

end Go.Proofs.YtplibjgfdnbifaaDoor
