/- Merged: GpsA. -/
import Derived.Test.YtjbbnlcghnjlfaaDoorGGpsWeeks3
import Derived.Test.YtjbbnlcghnjlfaaDoorGGpsWeeks6
import Derived.Test.YtjbbnlcghnjlfaaDoorGGpsWeeks7
import Derived.Test.YtjbbnlcghnjlfaaDoorGGpsWeeks8
import Derived.Test.YtjbbnlcghnjlfaaDoorGGpsWeeks9
namespace Go.Proofs.YtjbbnlcghnjlfaaDoor
open Go.RowKit
set_option linter.unusedVariables false
set_option linter.unusedSimpArgs false

theorem gof_any (t : Int) (w : World) (ht : fits t) :
    Calls Tryd.prog 6 #[.int .i64 t] w fun e w' => e = .returned (.tuple #[.int .i64 (owN t), .int .i64 (owS t), ev (owE t)]) ∧ w = w' := by
  have q0 := fun op t W x k => guard_ev op t W x k
  have q2 := fun W k => neq_ev W k
  have HS := Lib.hid (fun w => sub_any t 315964819 w ht (by decide))
  by_cases h : fits (t - 315964819)
  · obtain ⟨e0, e1, e2⟩ := ow_yes h
    rw [e0, e1, e2]
    rw [sm_fit h, bad_fit h] at HS
    have HP := Lib.hid (fun w => split_any (t - 315964819) 604800 w h (by decide) (by decide))
    rw [Int.fdiv_eq_ediv_of_nonneg _ (by decide), Int.fmod_eq_emod_of_nonneg _ (by decide)] at HP
    have r1 : IntKind.i64.wrap ((t - 315964819) % 604800) = (t - 315964819) % 604800 := IntWalk.i64_in _ (by omega)
    generalize (t - 315964819) % 604800 = R at *
    generalize (t - 315964819) / 604800 = Q at *
    generalize t - 315964819 = S at *
    clear h e0 e1 e2 ht
    go_enter Tryd.func6, Tryd.ntmps6
    go_wp2_with first
      | (go_at_call 17; refine (HS.out _).mono ?_; rintro e w' ⟨rfl, rfl⟩)
      | (go_at_call 18; refine (HP.out _).mono ?_; rintro e w' ⟨rfl, rfl⟩)
    go_ret3
    exact ⟨rfl, rfl⟩
  · obtain ⟨e0, e1, e2⟩ := ow_no h
    rw [e0, e1, e2]
    rw [sm_no h, bad_no h] at HS
    clear h e0 e1 e2 ht
    go_enter Tryd.func6, Tryd.ntmps6
    go_wp2_with (go_at_call 17; refine (HS.out _).mono ?_; rintro e w' ⟨rfl, rfl⟩)
    go_ret3
    exact ⟨rfl, rfl⟩

theorem gshort_any (t : Int) (w : World) (ht : fits t) :
    Calls Tryd.prog 13 #[.int .i64 t] w fun e w' => e = .returned (.int .i64 (fo t 10)) ∧ w = w' := by
  have HF := Lib.hid (fun w => foldbits_yes t 10 w ht (by decide) (by decide))
  have hb := fo_bd t 10
  rw [pw_10] at hb
  have r1 : IntKind.i64.wrap (fo t 10) = fo t 10 := IntWalk.i64_in _ (by omega)
  generalize fo t 10 = F at *
  clear ht hb
  go_enter Tryd.func13, Tryd.ntmps13
  go_wp2_with (go_at_call 30; refine (HF.out _).mono ?_; rintro e w' ⟨rfl, rfl⟩)
  go_ret
  exact ⟨rfl, rfl⟩

/-! three numbers added -/
theorem run3 (a b c : Int) : run 0 [a, b, c] = if fits a ∧ fits (a + b) ∧ fits (a + b + c) then some (a + b + c) else none := by
  simp only [run, Int.zero_add]
  by_cases h1 : fits a
  · by_cases h2 : fits (a + b)
    · by_cases h3 : fits (a + b + c)
      · rw [if_pos h1, if_pos h2, if_pos h3, if_pos ⟨h1, h2, h3⟩]
      · rw [if_pos h1, if_pos h2, if_neg h3, if_neg (fun h => h3 h.2.2)]
    · rw [if_pos h1, if_neg h2, if_neg (fun h => h2 h.2.1)]
  · rw [if_neg h1, if_neg (fun h => h1 h.1)]
theorem ta_sum {w s : Int} (h : ¬ (s < 0 ∨ 604799 < s)) (h1 : fits (w * 604800)) : sumV [w * 604800, s, 315964819] = taN w s ∧ sumE [w * 604800, s, 315964819] = taE w s := by
  unfold sumV sumE
  rw [run3]
  by_cases c : fits (w * 604800) ∧ fits (w * 604800 + s) ∧ fits (w * 604800 + s + 315964819)
  · obtain ⟨e1, e2⟩ := ta_yes h c.1 c.2.1 c.2.2
    rw [if_pos c, e1, e2]; exact ⟨rfl, rfl⟩
  · obtain ⟨e1, e2⟩ := ta_over h c
    rw [if_neg c, e1, e2]; exact ⟨rfl, rfl⟩
theorem ri3 {W : World} {g : Nat} {a b c : Int} {T : TypeId} (h : W.heap[g]? = some (.cells #[.int .i64 a, .int .i64 b, .int .i64 c] T (0, 0))) (ha : fits a) (hb : fits b) (hc : fits c) : Ri W (some ⟨g, 0, none⟩) [a, b, c] := by
  refine ⟨?_, .inr ⟨g, 0, rfl, bk_lt h, ?_⟩⟩
  · intro z hz
    simp at hz
    rcases hz with rfl | rfl | rfl <;> assumption
  · intro j hj
    rw [bk_cell h]
    match j, hj with
    | 0, _ => rfl
    | 1, _ => rfl
    | 2, _ => rfl
theorem gtai_any (k s : Int) (w : World) (hk : fits k) (hs : fits s) :
    Calls Tryd.prog 11 #[.int .i64 k, .int .i64 s] w fun e w' => e = .returned (.tuple #[.int .i64 (taN k s), ev (taE k s)]) ∧ Below w.heap.size w w' := by
  have q0 := fun op t W x k => guard_ev op t W x k
  have q2 := fun W k => neq_ev W k
  by_cases h : s < 0 ∨ 604799 < s
  · obtain ⟨e1, e2⟩ := ta_range (w := k) h
    rw [e1, e2]
    rcases h with h | h
    · have d1 : decide (s < 0) = true := decide_eq_true h
      clear h hs hk e1 e2
      go_enter Tryd.func11, Tryd.ntmps11
      go_wp2
      go_ret2
      exact ⟨rfl, Below.refl _ _⟩
    · have d1 : decide (s < 0) = false := decide_eq_false (by omega)
      have d2 : decide (604800 ≤ s) = true := decide_eq_true (by omega)
      clear h hs hk e1 e2
      go_enter Tryd.func11, Tryd.ntmps11
      go_wp2
      go_ret2
      exact ⟨rfl, Below.refl _ _⟩
  · have d1 : decide (s < 0) = false := decide_eq_false (by omega)
    have d2 : decide (604800 ≤ s) = false := decide_eq_false (by omega)
    have HM := Lib.hid (fun w => mul_any k 604800 w hk (by decide))
    by_cases h1 : fits (k * 604800)
    · rw [sm_fit h1, bad_fit h1] at HM
      obtain ⟨e1, e2⟩ := ta_sum h h1
      rw [← e1, ← e2]
      have HS : Hid (∀ W c, Ri W (some ⟨w.heap.size, 0, none⟩) [k * 604800, s, 315964819] → Calls Tryd.prog 28 #[.slice (some ⟨w.heap.size, 0, none⟩) 3 c] W fun e w' => e = .returned (.tuple #[.int .i64 (sumV [k * 604800, s, 315964819]), ev (sumE [k * 604800, s, 315964819])]) ∧ W = w') :=
        Lib.hid (fun W c hr => sum_any _ _ c W hr (by simp))
      generalize sumV [k * 604800, s, 315964819] = V at *
      generalize sumE [k * 604800, s, 315964819] = E at *
      have HR : Hid (∀ W T, W.heap[w.heap.size]? = some (.cells #[.int .i64 (k * 604800), .int .i64 s, .int .i64 315964819] T (0, 0)) → Ri W (some ⟨w.heap.size, 0, none⟩) [k * 604800, s, 315964819]) :=
        Lib.hid (fun W T hc => ri3 hc h1 hs (by decide))
      generalize k * 604800 = M at *
      clear h h1 hs hk e1 e2
      go_enter Tryd.func11, Tryd.ntmps11
      go_wp2_with first
        | (go_at_call 27; refine (HM.out _).mono ?_; rintro e w' ⟨rfl, rfl⟩)
        | (go_at_call 28; refine (HS.out _ _ (HR.out _ _ (heap_alloc_new _ _))).mono ?_; rintro e w' ⟨rfl, rfl⟩)
      go_ret2
      exact ⟨rfl, (Below.refl _ _).alloc (Nat.le_refl _) _⟩
    · rw [sm_no h1, bad_no h1] at HM
      obtain ⟨e1, e2⟩ := ta_over h (fun c => h1 c.1)
      rw [e1, e2]
      clear h h1 hs hk e1 e2
      go_enter Tryd.func11, Tryd.ntmps11
      go_wp2_with (go_at_call 27; refine (HM.out _).mono ?_; rintro e w' ⟨rfl, rfl⟩)
      go_ret2
      exact ⟨rfl, Below.refl _ _⟩

end Go.Proofs.YtjbbnlcghnjlfaaDoor
