/- The document's answer for package mjd: Epoch, There, Count, Day, Parse. -/
import Derived.Test.YtmfjfbofkkbmiaaDoorMjdM
import Derived.Test.YtmfjfbofkkbmiaaDoorDayF
import Derived.Test.YtmfjfbofkkbmiaaDoorRefF
namespace Go.Proofs.YtmfjfbofkkbmiaaDoor
open Go.RowKit
set_option linter.unusedVariables false

theorem rep_none (k : Int) (w : World) (h : ¬ kn k) :
    Calls Tryd.prog 28 #[.int .i64 k] w fun e w' => e = .returned (.tuple #[.int .i64 0, .bool false]) ∧ Below w.heap.size w w' := by
  unfold kn at h
  have c1 : (k == 1) = false := beq_eq_false_iff_ne.2 (by omega)
  have c2 : (k == 2) = false := beq_eq_false_iff_ne.2 (by omega)
  have c3 : (k == 3) = false := beq_eq_false_iff_ne.2 (by omega)
  have c4 : (k == 4) = false := beq_eq_false_iff_ne.2 (by omega)
  clear h
  go_enter Tryd.func28, Tryd.ntmps28
  go_wp2
  go_ret2
  exact ⟨rfl, Below.refl _ _⟩
theorem epochs_are : st 1858 + em 1858 (11 - 1) + 17 - 1 = -40587 ∧ st (-4713) + em (-4713) (11 - 1) + 24 - 1 = -2440588 ∧ st 1900 + em 1900 (1 - 1) + 1 - 1 = -25567 ∧ st 1980 + em 1980 (1 - 1) + 6 - 1 = 3657 := by decide +kernel
theorem rep_some (k : Int) (w : World) (h : kn k) :
    Calls Tryd.prog 28 #[.int .i64 k] w fun e w' => e = .returned (.tuple #[.int .i64 (-(ez k)), .bool true]) ∧ Below w.heap.size w w' := by
  obtain ⟨a1, a2, a3, a4⟩ := epochs_are
  have H1 := rof_any 1858 11 17 w (by unfold isy; decide) (by decide) (by decide) (by decide) (by decide)
  have H2 := rof_any (-4713) 11 24 w (by unfold isy; decide) (by decide) (by decide) (by decide) (by decide)
  have H3 := rof_any 1900 1 1 w (by unfold isy; decide) (by decide) (by decide) (by decide) (by decide)
  have H4 := rof_any 1980 1 6 w (by unfold isy; decide) (by decide) (by decide) (by decide) (by decide)
  rw [a1] at H1; rw [a2] at H2; rw [a3] at H3; rw [a4] at H4
  clear a1 a2 a3 a4
  have H1 := Lib.hid H1; have H2 := Lib.hid H2; have H3 := Lib.hid H3; have H4 := Lib.hid H4
  obtain ⟨-, g⟩ := kn_yes h
  clear h
  rcases g with rfl | rfl | rfl | rfl
  · go_enter Tryd.func28, Tryd.ntmps28
    go_wp2_with fail
    refine H1.out.mono ?_
    rintro e w1 ⟨rfl, hb⟩
    have B1 := Lib.hid hb; clear hb
    go_wp2_with fail
    go_ret2
    exact ⟨rfl, B1.out⟩
  · go_enter Tryd.func28, Tryd.ntmps28
    go_wp2_with fail
    refine H2.out.mono ?_
    rintro e w1 ⟨rfl, hb⟩
    have B1 := Lib.hid hb; clear hb
    go_wp2_with fail
    go_ret2
    exact ⟨rfl, B1.out⟩
  · go_enter Tryd.func28, Tryd.ntmps28
    go_wp2_with fail
    refine H3.out.mono ?_
    rintro e w1 ⟨rfl, hb⟩
    have B1 := Lib.hid hb; clear hb
    go_wp2_with fail
    go_ret2
    exact ⟨rfl, B1.out⟩
  · go_enter Tryd.func28, Tryd.ntmps28
    go_wp2_with fail
    refine H4.out.mono ?_
    rintro e w1 ⟨rfl, hb⟩
    have B1 := Lib.hid hb; clear hb
    go_wp2_with fail
    go_ret2
    exact ⟨rfl, B1.out⟩

theorem rthere_any (n : Int) (w : World) : Calls Tryd.prog 29 #[.int .i64 n] w fun e w' => e = .returned (.bool (!decide (nod n))) ∧ w = w' := by
  have hF := rfirst_any w
  have hL := rlast_any w
  by_cases c : nod n
  · rw [decide_eq_true c, Bool.not_true]
    unfold nod at c
    rcases (by omega : ¬ n ≥ -4371587 ∨ (n ≥ -4371587 ∧ ¬ n ≤ 2932896)) with h | ⟨h, h'⟩
    all_goals
      clear c
      go_enter Tryd.func29, Tryd.ntmps29
      go_wp2_with (first
        | (go_at_call 40; refine hF.mono ?_; rintro e w' ⟨rfl, rfl⟩)
        | (go_at_call 41; refine hL.mono ?_; rintro e w' ⟨rfl, rfl⟩))
      go_ret
      first | exact ⟨rfl, rfl⟩ | exact ⟨ret1_eq (bool_eq (by simp; omega)), rfl⟩
  · rw [decide_eq_false c, Bool.not_false]
    unfold nod at c
    have h : n ≥ -4371587 := by omega
    have h' : n ≤ 2932896 := by omega
    clear c
    go_enter Tryd.func29, Tryd.ntmps29
    go_wp2_with (first
      | (go_at_call 40; refine hF.mono ?_; rintro e w' ⟨rfl, rfl⟩)
      | (go_at_call 41; refine hL.mono ?_; rintro e w' ⟨rfl, rfl⟩))
    go_ret
    first | exact ⟨rfl, rfl⟩ | exact ⟨ret1_eq (bool_eq (by simp; omega)), rfl⟩

theorem rcount_any (k n : Int) (w : World) :
    Calls Tryd.prog 10 #[.int .i64 k, .int .i64 n] w fun e w' => e = .returned (.tuple #[.int .i64 (ctN k n), .int .i64 (ctE k n)]) ∧ Below w.heap.size w w' := by
  have hT := Lib.hid (fun w => rthere_any n w)
  by_cases h : kn k
  · have H := Lib.hid (rep_some k w h)
    have b := ez_bd k
    by_cases g : nod n
    · obtain ⟨e1, e2⟩ := ct_far h g
      rw [e1, e2]
      rw [decide_eq_true g, Bool.not_true] at hT
      clear e1 e2 h g
      generalize ez k = z at *
      go_enter Tryd.func10, Tryd.ntmps10
      go_wp2_with fail
      refine H.out.mono ?_
      rintro e w1 ⟨rfl, hb⟩
      have B1 := Lib.hid hb; clear hb
      go_wp2_with (go_at_call 29; refine (hT.out _).mono ?_; rintro e w' ⟨rfl, rfl⟩)
      go_ret2
      exact ⟨rfl, B1.out⟩
    · obtain ⟨e1, e2⟩ := ct_yes h g
      rw [e1, e2]
      rw [decide_eq_false g, Bool.not_false] at hT
      clear e1 e2 h
      unfold nod at g
      generalize ez k = z at *
      have g1 : -4371587 ≤ n := by omega
      have g2 : n ≤ 2932896 := by omega
      clear g
      go_enter Tryd.func10, Tryd.ntmps10
      go_wp2_with fail
      refine H.out.mono ?_
      rintro e w1 ⟨rfl, hb⟩
      have B1 := Lib.hid hb; clear hb
      go_wp2_with (go_at_call 29; refine (hT.out _).mono ?_; rintro e w' ⟨rfl, rfl⟩)
      go_ret2
      exact ⟨ret2_eq (int_eq (by omega)) rfl, B1.out⟩
  · obtain ⟨e1, e2⟩ := ct_no n h
    rw [e1, e2]
    have H := Lib.hid (rep_none k w h)
    clear e1 e2 h
    go_enter Tryd.func10, Tryd.ntmps10
    go_wp2_with fail
    refine H.out.mono ?_
    rintro e w1 ⟨rfl, hb⟩
    have B1 := Lib.hid hb; clear hb
    go_wp2_with fail
    go_ret2
    exact ⟨rfl, B1.out⟩

theorem rday7_any (k c : Int) (w : World) :
    Calls Tryd.prog 15 #[.int .i64 k, .int .i64 c] w fun e w' => e = .returned (.tuple #[.int .i64 (dyN k c), .int .i64 (dyE k c)]) ∧ Below w.heap.size w w' := by
  have hT := Lib.hid (fun n w => rthere_any n w)
  by_cases h : kn k
  · have H := Lib.hid (rep_some k w h)
    have b := ez_bd k
    by_cases far : c < -10000000 ∨ 10000000 < c
    · obtain ⟨e1, e2⟩ := dy_far (c := c) h (by unfold nod; omega)
      rw [e1, e2]
      clear e1 e2 h
      generalize ez k = z at *
      rcases (by omega : c < -10000000 ∨ (¬ c < -10000000 ∧ c > 10000000)) with d | ⟨d, d'⟩
      all_goals
        clear far
        go_enter Tryd.func15, Tryd.ntmps15
        go_wp2_with fail
        refine H.out.mono ?_
        rintro e w1 ⟨rfl, hb⟩
        have B1 := Lib.hid hb; clear hb
        go_wp2_with fail
        go_ret2
        exact ⟨rfl, B1.out⟩
    · have d : ¬ c < -10000000 := by omega
      have d' : ¬ c > 10000000 := by omega
      clear far
      by_cases g : nod (c - ez k)
      · obtain ⟨e1, e2⟩ := dy_far h g
        rw [e1, e2]
        have g' : nod (c + -(ez k)) := by rw [← Int.sub_eq_add_neg]; exact g
        have hT := Lib.hid (hT.out (c + -(ez k)))
        rw [decide_eq_true g', Bool.not_true] at hT
        clear e1 e2 h g g'
        generalize ez k = z at *
        go_enter Tryd.func15, Tryd.ntmps15
        go_wp2_with fail
        refine H.out.mono ?_
        rintro e w1 ⟨rfl, hb⟩
        have B1 := Lib.hid hb; clear hb
        go_wp2_with (go_at_call 29; refine (hT.out _).mono ?_; rintro e w' ⟨rfl, rfl⟩)
        go_ret2
        exact ⟨rfl, B1.out⟩
      · obtain ⟨e1, e2⟩ := dy_yes h g
        rw [e1, e2]
        have g' : ¬ nod (c + -(ez k)) := by rw [← Int.sub_eq_add_neg]; exact g
        have hT := Lib.hid (hT.out (c + -(ez k)))
        rw [decide_eq_false g', Bool.not_false] at hT
        clear e1 e2 h g g'
        generalize ez k = z at *
        go_enter Tryd.func15, Tryd.ntmps15
        go_wp2_with fail
        refine H.out.mono ?_
        rintro e w1 ⟨rfl, hb⟩
        have B1 := Lib.hid hb; clear hb
        go_wp2_with (go_at_call 29; refine (hT.out _).mono ?_; rintro e w' ⟨rfl, rfl⟩)
        go_ret2
        exact ⟨ret2_eq (int_eq (by omega)) rfl, B1.out⟩
  · obtain ⟨e1, e2⟩ := dy_no c h
    rw [e1, e2]
    have H := Lib.hid (rep_none k w h)
    clear e1 e2 h
    go_enter Tryd.func15, Tryd.ntmps15
    go_wp2_with fail
    refine H.out.mono ?_
    rintro e w1 ⟨rfl, hb⟩
    have B1 := Lib.hid hb; clear hb
    go_wp2_with fail
    go_ret2
    exact ⟨rfl, B1.out⟩

theorem rparse7_any (k : Int) (s : ByteArray) (w : World) (hs : s.size ≤ maxLen) :
    Calls Tryd.prog 17 #[.int .i64 k, .string s] w fun e w' => e = .returned (.tuple #[.int .i64 (psN k s.data.toList), .int .i64 (psE k s.data.toList)]) ∧ Below w.heap.size w w' := by
  have HS := Lib.hid (fun w => rsigned_any s 7 w hs (by decide))
  have HD := Lib.hid (fun w => rday7_any k (sgN s.data.toList 7) w)
  unfold psN psE
  by_cases h : kn k
  · rw [if_pos h, if_pos h]
    have H := Lib.hid (rep_some k w h)
    clear h hs
    generalize dyN k (sgN s.data.toList 7) = n at *
    generalize dyE k (sgN s.data.toList 7) = f at *
    generalize sgE s.data.toList 7 = E at *
    generalize sgN s.data.toList 7 = N at *
    generalize ez k = z at *
    by_cases g : E = 0
    · rw [if_pos g, if_pos g]
      have g := (bne_eq_false_iff_eq).2 g
      go_enter Tryd.func17, Tryd.ntmps17
      go_wp2_with fail
      refine H.out.mono ?_
      rintro e w1 ⟨rfl, hb⟩
      have B1 := Lib.hid hb; clear hb
      go_wp2_with fail
      refine (HS.out _).mono ?_
      rintro e w2 ⟨rfl, hb⟩
      have B2 := Lib.hid (B1.out.trans (hb.mono B1.out.size)); clear hb
      go_wp2_with fail
      refine (HD.out _).mono ?_
      rintro e w3 ⟨rfl, hb⟩
      have B3 := Lib.hid (B2.out.trans (hb.mono B2.out.size)); clear hb
      go_wp2_with fail
      go_ret2
      exact ⟨rfl, B3.out⟩
    · rw [if_neg g, if_neg g]
      have g := (bne_iff_ne).2 g
      go_enter Tryd.func17, Tryd.ntmps17
      go_wp2_with fail
      refine H.out.mono ?_
      rintro e w1 ⟨rfl, hb⟩
      have B1 := Lib.hid hb; clear hb
      go_wp2_with fail
      refine (HS.out _).mono ?_
      rintro e w2 ⟨rfl, hb⟩
      have B2 := Lib.hid (B1.out.trans (hb.mono B1.out.size)); clear hb
      go_wp2_with fail
      go_ret2
      exact ⟨rfl, B2.out⟩
  · rw [if_neg h, if_neg h]
    have H := Lib.hid (rep_none k w h)
    clear h
    go_enter Tryd.func17, Tryd.ntmps17
    go_wp2_with fail
    refine H.out.mono ?_
    rintro e w1 ⟨rfl, hb⟩
    have B1 := Lib.hid hb; clear hb
    go_wp2_with fail
    go_ret2
    exact ⟨rfl, B1.out⟩

end Go.Proofs.YtmfjfbofkkbmiaaDoor
