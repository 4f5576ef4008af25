/- Minus, Less, Times. -/
import Derived.Test.YtbffpallhofonaaBigD
namespace Go.Proofs.Ytbffpallhofonaa
open Go.RowKit

theorem len_pos {ds : List Nat} {z : Int} (hn : nv ds = z.natAbs) (ht : trim ds) : 0 < ds.length ↔ z ≠ 0 := by
  constructor
  · intro h; have := ht h; omega
  · intro h
    rcases Nat.eq_zero_or_pos ds.length with h0 | h0
    · rw [List.eq_nil_of_length_eq_zero h0] at hn; simp [nv] at hn; omega
    · exact h0

set_option maxHeartbeats 800000 in
theorem minus_big (v : Value) (x : Int) (k : Nat) (w : World) (h : BV w v x k) (hk : k ≤ 1000) :
    Calls Try.prog 43 #[v] w fun e w' => ∃ u, e = .returned u ∧ BV w' u (-x) k ∧ Below w.heap.size w w' := by
  obtain ⟨A, ds, c, rfl, hr, hc, hc', hl, hn, ht⟩ := h
  have hp := len_pos hn ht
  have HR := Lib.hid hr; have HC := Lib.hid hc; have HC' := Lib.hid hc'; have HN := Lib.hid hn; have HT := Lib.hid ht; have HL := Lib.hid hl
  clear hr hc hc' hn ht
  have hlen : ds.length ≤ 1000 := by omega
  clear hl
  have fin : ∀ b w', b = decide (-x < 0) → Below w.heap.size w w' → ∃ u, Ending.returned (.agg #[.bool b, .slice A ds.length c]) = .returned u ∧ BV w' u (-x) k ∧ Below w.heap.size w w' := by
    rintro b w' rfl hb
    exact ⟨_, rfl, ⟨A, ds, c, rfl, HR.out.below hb, HC.out, HC'.out, HL.out, by rw [HN.out]; omega, HT.out⟩, hb⟩
  have FIN := Lib.hid fin; clear fin
  have hx : (decide (x < 0) = true ∧ decide (-x < 0) = false) ∨ (decide (x < 0) = false ∧ decide (-x < 0) = true ∧ 0 < ds.length) ∨ (decide (x < 0) = false ∧ decide (-x < 0) = false ∧ ds.length = 0) := by
    simp only [decide_eq_true_eq, decide_eq_false_iff_not]; omega
  clear hp
  rcases hx with ⟨h1, h2⟩ | ⟨h1, h2, h3⟩ | ⟨h1, h2, h3⟩
  · go_enter Try.func43, Try.ntmps43
    go_wp2
    refine bodyPost_ret (v := .agg #[.bool false, .slice A ds.length c]) (by simp [results, Try.results43, go_sem]) rfl (FIN.out _ _ h2.symm ?_)
    go_grown
  · have h4 : decide ((0 : Int) < (ds.length : Int)) = true := by simp; omega
    go_enter Try.func43, Try.ntmps43
    go_wp2
    refine bodyPost_ret (v := .agg #[.bool true, .slice A ds.length c]) (by simp [results, Try.results43, go_sem]) rfl (FIN.out _ _ h2.symm ?_)
    go_grown
  · go_enter Try.func43, Try.ntmps43
    go_wp2
    refine bodyPost_ret (v := .agg #[.bool false, .slice A ds.length c]) (by simp [results, Try.results43, go_sem, h3]) rfl (FIN.out _ _ h2.symm ?_)
    go_grown

set_option maxHeartbeats 800000 in
theorem less_big (v u : Value) (x y : Int) (k l : Nat) (w : World) (hv : BV w v x k) (hu : BV w u y l) (hk : k ≤ 1000) (hl : l ≤ 1000) :
    Calls Try.prog 62 #[v, u] w fun e w' => e = .returned (.bool (decide (x < y))) ∧ Below w.heap.size w w' := by
  obtain ⟨A, xs, c, rfl, hr, _, _, hxl, hn, _⟩ := hv
  obtain ⟨B, ys, d, rfl, hs, _, _, hyl, hm, _⟩ := hu
  have HR := Lib.hid hr; have HS := Lib.hid hs; have HN := Lib.hid hn; have HM := Lib.hid hm
  clear hr hs hn hm
  have hx1 : xs.length ≤ 10000 := by omega
  have hy1 : ys.length ≤ 10000 := by omega
  clear hxl hyl
  have hx : (decide (x < 0) = true ∧ decide (y < 0) = false ∧ decide (x < y) = true) ∨ (decide (x < 0) = false ∧ decide (y < 0) = true ∧ decide (x < y) = false) ∨
      (decide (x < 0) = true ∧ decide (y < 0) = true ∧ decide (nv ys < nv xs) = decide (x < y)) ∨ (decide (x < 0) = false ∧ decide (y < 0) = false ∧ decide (nv xs < nv ys) = decide (x < y)) := by
    rw [HN.out, HM.out]
    by_cases h1 : x < 0 <;> by_cases h2 : y < 0 <;> simp [h1, h2] <;> first | omega | (rw [← Bool.eq_iff_iff.trans (by simp)]; done) | skip
    all_goals (try (by_cases h3 : x < y <;> simp [h3] <;> omega))
  rcases hx with ⟨h1, h2, h3⟩ | ⟨h1, h2, h3⟩ | ⟨h1, h2, h3⟩ | ⟨h1, h2, h3⟩
  · have H3 := Lib.hid h3; clear h3
    go_enter Try.func62, Try.ntmps62
    go_wp2
    go_ret
    exact ⟨by rw [H3.out]; rfl, by go_grown⟩
  · have H3 := Lib.hid h3; clear h3
    go_enter Try.func62, Try.ntmps62
    go_wp2
    go_ret
    exact ⟨by rw [H3.out]; rfl, by go_grown⟩
  · have H3 := Lib.hid h3; clear h3
    go_enter Try.func62, Try.ntmps62
    go_wp2_with (go_at_call 60; refine (less_any _ _ _ _ _ _ _ (HS.out.below (by go_grown)) (HR.out.below (by go_grown)) hy1 hx1).mono ?_; rintro e w' ⟨rfl, rfl⟩)
    go_ret
    exact ⟨ret1_eq (bool_eq H3.out), by go_grown⟩
  · have H3 := Lib.hid h3; clear h3
    go_enter Try.func62, Try.ntmps62
    go_wp2_with (go_at_call 60; refine (less_any _ _ _ _ _ _ _ (HR.out.below (by go_grown)) (HS.out.below (by go_grown)) hx1 hy1).mono ?_; rintro e w' ⟨rfl, rfl⟩)
    go_ret
    exact ⟨ret1_eq (bool_eq H3.out), by go_grown⟩

/-- Below the size at which a call began all cells are as they were: as rules for the walk. -/
theorem old_cells {W w1 : World} (h : Below W.heap.size W w1) : (∀ b o, b < W.heap.size → w1.cell? ⟨b, o, none⟩ = W.cell? ⟨b, o, none⟩) ∧ (∀ b o, b < W.heap.size → w1.frozen? ⟨b, o, none⟩ = W.frozen? ⟨b, o, none⟩) :=
  ⟨fun b o hb => h.cell (p := ⟨b, o, none⟩) hb, fun b o hb => h.frozen (p := ⟨b, o, none⟩) hb⟩
theorem mul_sign (x y : Int) : decide (x * y < 0) = (decide (x < 0) != decide (y < 0) && decide (x * y ≠ 0)) := by
  rcases Int.lt_trichotomy x 0 with h1 | h1 | h1 <;> rcases Int.lt_trichotomy y 0 with h2 | h2 | h2
  · have := Int.mul_pos_of_neg_of_neg h1 h2
    rw [decide_eq_true h1, decide_eq_true h2, decide_eq_false (by omega)]; rfl
  · subst h2; simp
  · have := Int.mul_neg_of_neg_of_pos h1 h2
    rw [decide_eq_true h1, decide_eq_false (by omega : ¬ y < 0), decide_eq_true this, decide_eq_true (by omega : x * y ≠ 0)]; rfl
  · subst h1; simp
  · subst h1; simp
  · subst h1; simp
  · have := Int.mul_neg_of_pos_of_neg h1 h2
    rw [decide_eq_false (by omega : ¬ x < 0), decide_eq_true h2, decide_eq_true this, decide_eq_true (by omega : x * y ≠ 0)]; rfl
  · subst h2; simp
  · have := Int.mul_pos h1 h2
    rw [decide_eq_false (by omega : ¬ x < 0), decide_eq_false (by omega : ¬ y < 0), decide_eq_false (by omega : ¬ x * y < 0)]; rfl

end Go.Proofs.Ytbffpallhofonaa
