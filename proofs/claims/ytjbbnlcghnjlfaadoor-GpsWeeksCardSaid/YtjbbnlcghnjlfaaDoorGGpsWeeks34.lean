/- Merged: BigE. -/
import Derived.Test.YtjbbnlcghnjlfaaDoorGGpsWeeks33
namespace Go.Proofs.YtjbbnlcghnjlfaaDoor
open Go.RowKit

theorem len_pos {ds : List Nat} {z : Int} (hn : nv ds = z.natAbs) (ht : trim ds) : 0 < ds.length ↔ z ≠ 0 := by
  constructor
  · intro h; have := ht h; omega
  · intro h
    rcases Nat.eq_zero_or_pos ds.length with h0 | h0
    · rw [List.eq_nil_of_length_eq_zero h0] at hn; simp [nv] at hn; omega
    · exact h0

set_option maxHeartbeats 800000 in
theorem minus_big (v : Value) (x : Int) (k : Nat) (w : World) (h : BV w v x k) (hk : k ≤ 1000) :
    Calls Tryd.prog 23 #[v] w fun e w' => ∃ u, e = .returned u ∧ BV w' u (-x) k ∧ Below w.heap.size w w' := by
  obtain ⟨A, ds, c, rfl, hr, hc, hc', hl, hn, ht⟩ := h
  have hp := len_pos hn ht
  have HR := Lib.hid hr; have HC := Lib.hid hc; have HC' := Lib.hid hc'; have HN := Lib.hid hn; have HT := Lib.hid ht; have HL := Lib.hid hl
  clear hr hc hc' hn ht
  have hlen : ds.length ≤ 1000 := by omega
  clear hl
  have fin : ∀ b w', b = decide (-x < 0) → Below w.heap.size w w' → ∃ u, Ending.returned (.agg #[.bool b, .slice A ds.length c]) = .returned u ∧ BV w' u (-x) k ∧ Below w.heap.size w w' := by
    rintro b w' rfl hb
    exact ⟨_, rfl, ⟨A, ds, c, rfl, HR.out.below hb, HC.out, HC'.out, HL.out, by rw [HN.out]; omega, HT.out⟩, hb⟩
  have FIN := Lib.hid fin; clear fin
  have hx : (decide (x < 0) = true ∧ decide (-x < 0) = false) ∨ (decide (x < 0) = false ∧ decide (-x < 0) = true ∧ 0 < ds.length) ∨ (decide (x < 0) = false ∧ decide (-x < 0) = false ∧ ds.length = 0) := by
    simp only [decide_eq_true_eq, decide_eq_false_iff_not]; omega
  clear hp
  rcases hx with ⟨h1, h2⟩ | ⟨h1, h2, h3⟩ | ⟨h1, h2, h3⟩
  · go_enter Tryd.func23, Tryd.ntmps23
    go_wp2
    refine bodyPost_ret (v := .agg #[.bool false, .slice A ds.length c]) (by simp [results, Tryd.results23, go_sem]) rfl (FIN.out _ _ h2.symm ?_)
    go_grown
  · have h4 : decide ((0 : Int) < (ds.length : Int)) = true := by simp; omega
    go_enter Tryd.func23, Tryd.ntmps23
    go_wp2
    refine bodyPost_ret (v := .agg #[.bool true, .slice A ds.length c]) (by simp [results, Tryd.results23, go_sem]) rfl (FIN.out _ _ h2.symm ?_)
    go_grown
  · go_enter Tryd.func23, Tryd.ntmps23
    go_wp2
    refine bodyPost_ret (v := .agg #[.bool false, .slice A ds.length c]) (by simp [results, Tryd.results23, go_sem, h3]) rfl (FIN.out _ _ h2.symm ?_)
    go_grown

set_option maxHeartbeats 800000 in
theorem less_big (v u : Value) (x y : Int) (k l : Nat) (w : World) (hv : BV w v x k) (hu : BV w u y l) (hk : k ≤ 1000) (hl : l ≤ 1000) :
    Calls Tryd.prog 42 #[v, u] w fun e w' => e = .returned (.bool (decide (x < y))) ∧ Below w.heap.size w w' := by
  obtain ⟨A, xs, c, rfl, hr, _, _, hxl, hn, _⟩ := hv
  obtain ⟨B, ys, d, rfl, hs, _, _, hyl, hm, _⟩ := hu
  have HR := Lib.hid hr; have HS := Lib.hid hs; have HN := Lib.hid hn; have HM := Lib.hid hm
  clear hr hs hn hm
  have hx1 : xs.length ≤ 10000 := by omega
  have hy1 : ys.length ≤ 10000 := by omega
  clear hxl hyl
  have hx : (decide (x < 0) = true ∧ decide (y < 0) = false ∧ decide (x < y) = true) ∨ (decide (x < 0) = false ∧ decide (y < 0) = true ∧ decide (x < y) = false) ∨
      (decide (x < 0) = true ∧ decide (y < 0) = true ∧ decide (nv ys < nv xs) = decide (x < y)) ∨ (decide (x < 0) = false ∧ decide (y < 0) = false ∧ decide (nv xs < nv ys) = decide (x < y)) := by
    rw [HN.out, HM.out]
    by_cases h1 : x < 0 <;> by_cases h2 : y < 0 <;> simp [h1, h2] <;> first | omega | (rw [← Bool.eq_iff_iff.trans (by simp)]; done) | skip
    all_goals (try (by_cases h3 : x < y <;> simp [h3] <;> omega))
  rcases hx with ⟨h1, h2, h3⟩ | ⟨h1, h2, h3⟩ | ⟨h1, h2, h3⟩ | ⟨h1, h2, h3⟩
  · have H3 := Lib.hid h3; clear h3
    go_enter Tryd.func42, Tryd.ntmps42
    go_wp2
    go_ret
    exact ⟨by rw [H3.out]; rfl, by go_grown⟩
  · have H3 := Lib.hid h3; clear h3
    go_enter Tryd.func42, Tryd.ntmps42
    go_wp2
    go_ret
    exact ⟨by rw [H3.out]; rfl, by go_grown⟩
  · have H3 := Lib.hid h3; clear h3
    go_enter Tryd.func42, Tryd.ntmps42
    go_wp2_with (go_at_call 44; refine (less_any _ _ _ _ _ _ _ (HS.out.below (by go_grown)) (HR.out.below (by go_grown)) hy1 hx1).mono ?_; rintro e w' ⟨rfl, rfl⟩)
    go_ret
    exact ⟨ret1_eq (bool_eq H3.out), by go_grown⟩
  · have H3 := Lib.hid h3; clear h3
    go_enter Tryd.func42, Tryd.ntmps42
    go_wp2_with (go_at_call 44; refine (less_any _ _ _ _ _ _ _ (HR.out.below (by go_grown)) (HS.out.below (by go_grown)) hx1 hy1).mono ?_; rintro e w' ⟨rfl, rfl⟩)
    go_ret
    exact ⟨ret1_eq (bool_eq H3.out), by go_grown⟩

/-- Below the size at which a call began all cells are as they were: as rules for the walk. -/
theorem old_cells {W w1 : World} (h : Below W.heap.size W w1) : (∀ b o, b < W.heap.size → w1.cell? ⟨b, o, none⟩ = W.cell? ⟨b, o, none⟩) ∧ (∀ b o, b < W.heap.size → w1.frozen? ⟨b, o, none⟩ = W.frozen? ⟨b, o, none⟩) :=
  ⟨fun b o hb => h.cell (p := ⟨b, o, none⟩) hb, fun b o hb => h.frozen (p := ⟨b, o, none⟩) hb⟩
theorem mul_sign (x y : Int) : decide (x * y < 0) = (decide (x < 0) != decide (y < 0) && decide (x * y ≠ 0)) := by
  rcases Int.lt_trichotomy x 0 with h1 | h1 | h1 <;> rcases Int.lt_trichotomy y 0 with h2 | h2 | h2
  · have := Int.mul_pos_of_neg_of_neg h1 h2
    rw [decide_eq_true h1, decide_eq_true h2, decide_eq_false (by omega)]; rfl
  · subst h2; simp
  · have := Int.mul_neg_of_neg_of_pos h1 h2
    rw [decide_eq_true h1, decide_eq_false (by omega : ¬ y < 0), decide_eq_true this, decide_eq_true (by omega : x * y ≠ 0)]; rfl
  · subst h1; simp
  · subst h1; simp
  · subst h1; simp
  · have := Int.mul_neg_of_pos_of_neg h1 h2
    rw [decide_eq_false (by omega : ¬ x < 0), decide_eq_true h2, decide_eq_true this, decide_eq_true (by omega : x * y ≠ 0)]; rfl
  · subst h2; simp
  · have := Int.mul_pos h1 h2
    rw [decide_eq_false (by omega : ¬ x < 0), decide_eq_false (by omega : ¬ y < 0), decide_eq_false (by omega : ¬ x * y < 0)]; rfl

set_option maxHeartbeats 800000 in
theorem times_big (v u : Value) (x y : Int) (k l : Nat) (w : World) (hv : BV w v x k) (hu : BV w u y l) (hk : k ≤ 1000) (hl : l ≤ 1000) :
    Calls Tryd.prog 29 #[v, u] w fun e w' => ∃ t, e = .returned t ∧ BV w' t (x * y) (k + l + 1) ∧ Below w.heap.size w w' := by
  obtain ⟨A, xs, c, rfl, hr, _, _, hxl, hn, _⟩ := hv
  obtain ⟨B, ys, d, rfl, hs, _, _, hyl, hm, _⟩ := hu
  have HR := Lib.hid hr; have HS := Lib.hid hs; have HN := Lib.hid hn; have HM := Lib.hid hm
  clear hr hs hn hm
  have hx1 : xs.length ≤ 1000 := by omega
  have hy1 : ys.length ≤ 1000 := by omega
  have hx2 := Lib.hid hxl; have hy2 := Lib.hid hyl
  clear hxl hyl
  have sgn := Lib.hid (mul_sign x y)
  go_enter Tryd.func29, Tryd.ntmps29
  go_wp2_with fail
  refine (times_any _ _ _ _ _ _ _ (HR.out.below (by go_grown)) (HS.out.below (by go_grown)) hx1 hy1).mono ?_
  rintro e w1 ⟨C, zs, cc, rfl, h1, h2, h3, h4, h5, h6, h7⟩
  have hzl : nv zs = (x * y).natAbs := by rw [h5, HN.out, HM.out, Int.natAbs_mul]
  have hp := Lib.hid (len_pos hzl h6)
  have H1 := Lib.hid h1; have H2 := Lib.hid h2; have H3 := Lib.hid h3; have H6 := Lib.hid h6; have H7 := Lib.hid h7; have HZ := Lib.hid hzl
  have hzs : zs.length ≤ 3000 := by omega
  have H4 : Hid (zs.length ≤ k + l + 1) := by have := hx2.out; have := hy2.out; show _ ≤ _; omega
  clear h1 h2 h3 h4 h5 h6 hzl
  obtain ⟨o1, o2⟩ := old_cells h7
  have hsz : w.heap.size + 3 ≤ w1.heap.size := by have := h7.size; simpa using this
  have hg : w1.heap[w.heap.size + 2]? = some (.cells #[.bool false, .slice none 0 0] 49 (0, 0)) := by
    rw [h7.block _ (by simp)]
    have := heap_alloc_new ((w.alloc (.cells #[.bool (decide (x < 0)), .slice A xs.length c] 49)).alloc (.cells #[.bool (decide (y < 0)), .slice B ys.length d] 49)) (.cells #[.bool false, .slice none 0 0] 49)
    simpa using this
  have fin : ∀ b u v g w2, b = decide (x * y < 0) → g = w.heap.size + 2 → w2 = (w1.setCell ⟨g, 0, none⟩ u).setCell ⟨g, 1, none⟩ v → ∃ t, Ending.returned (.agg #[.bool b, .slice C zs.length cc]) = .returned t ∧ BV w2 t (x * y) (k + l + 1) ∧ Below w.heap.size w w2 := by
    rintro b u v g w2 rfl rfl rfl
    refine ⟨_, rfl, ⟨C, zs, cc, rfl, H3.out.store2 (whole_cell hg 0) (whole_cell hg 1) _ _, H1.out, H2.out, H4.out, HZ.out, H6.out⟩, ?_⟩
    have hb : Below w.heap.size w w1 := by
      refine Below.trans ?_ (H7.out.mono (by simp; omega))
      go_grown
    exact (hb.setCell (by simp) _).setCell (by simp) _
  have FIN := Lib.hid fin; clear fin h7
  have hc0 : w1.cell? ⟨w.heap.size + 1 + 1, 0, none⟩ = some (.bool false) := whole_cell hg 0
  have hc1 : w1.cell? ⟨w.heap.size + 1 + 1, 1, none⟩ = some (.slice none 0 0) := whole_cell hg 1
  clear hg
  have hz0 : (0 < zs.length ∧ decide (x * y ≠ 0) = true) ∨ (zs.length = 0 ∧ decide (x * y ≠ 0) = false) := by
    have := hp.out
    simp only [decide_eq_true_eq, decide_eq_false_iff_not]
    omega
  cases hb1 : decide (x < 0) <;> cases hb2 : decide (y < 0) <;> rcases hz0 with ⟨h1, h2⟩ | ⟨h1, h2⟩
  all_goals
    have s2 := sgn.out
    rw [hb1, hb2, h2] at s2
    have S2 := Lib.hid s2; clear s2 h2
    try have h4 : decide ((0 : Int) < (zs.length : Int)) = true := by simp; omega
    go_wp2_with fail
  all_goals first
    | refine bodyPost_ret (v := .agg #[.bool true, .slice C zs.length cc]) (by first | (simp [results, Tryd.results29, go_sem, hc0, hc1]; done) | simp [results, Tryd.results29, go_sem, h1, hc0, hc1]) rfl (FIN.out _ (.bool true) (.slice C zs.length cc) (w.heap.size + 2) _ S2.out.symm rfl ?_)
      first | rfl | simp [h1]
    | refine bodyPost_ret (v := .agg #[.bool false, .slice C zs.length cc]) (by first | (simp [results, Tryd.results29, go_sem, hc0, hc1]; done) | simp [results, Tryd.results29, go_sem, h1, hc0, hc1]) rfl (FIN.out _ (.bool false) (.slice C zs.length cc) (w.heap.size + 2) _ S2.out.symm rfl ?_)
      first | rfl | simp [h1]
end Go.Proofs.YtjbbnlcghnjlfaaDoor
