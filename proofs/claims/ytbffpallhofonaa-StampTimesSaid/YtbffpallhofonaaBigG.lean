/- Plus, the third way; and all of it. -/
import Derived.Test.YtbffpallhofonaaBigF
namespace Go.Proofs.Ytbffpallhofonaa
open Go.RowKit

set_option maxRecDepth 10000 in
set_option maxHeartbeats 1600000 in
theorem plus_more (b : Bool) (A B : Option Addr) (xs ys : List Nat) (c d : Nat) (w : World) (hr : Rd w A xs) (hs : Rd w B ys) (hx : xs.length ≤ 1000) (hy : ys.length ≤ 1000) (hge : nv ys ≤ nv xs) :
    Calls Try.prog 42 #[.agg #[.bool b, .slice A xs.length c], .agg #[.bool (!b), .slice B ys.length d]] w fun e w' => ∃ (C : Option Addr) (zs : List Nat) (k : Nat), e = .returned (.agg #[.bool (b && decide (0 < zs.length)), .slice C zs.length k]) ∧ zs.length ≤ k ∧ k ≤ maxLen ∧ Rd w' C zs ∧
      zs.length ≤ xs.length ∧ nv zs = nv xs - nv ys ∧ trim zs ∧ Below w.heap.size w w' := by
  have HR := Lib.hid hr; have HS := Lib.hid hs
  clear hr hs
  have hx1 : xs.length ≤ 10000 := by omega
  have hy1 : ys.length ≤ 10000 := by omega
  have hx5 : xs.length ≤ 5000 := by omega
  have hd : decide (nv xs < nv ys) = false := by simp; omega
  have HG := Lib.hid hge; clear hge
  have hbb : (b == !b) = false := by cases b <;> rfl
  go_enter Try.func42, Try.ntmps42
  go_wp2_with fail
  refine (less_any _ _ _ _ _ _ _ (HR.out.below (by go_grown)) (HS.out.below (by go_grown)) hx1 hy1).mono ?_
  rintro e w' ⟨rfl, rfl⟩
  go_wp2_with fail
  refine (minus_any _ _ _ _ _ _ _ (HR.out.below (by go_grown)) (HS.out.below (by go_grown)) hx5 HG.out).mono ?_
  rintro e w1 ⟨C, zs, kk, rfl, h1, h2, h3, h4, h5, h6, h7⟩
  obtain ⟨g0, g1, g2, g3, g4⟩ := after_three (h7.mono (by simp))
  have G2 := Lib.hid g2; have G3 := Lib.hid g3
  have hc0 : w1.cell? ⟨w.heap.size, 0, none⟩ = some (.bool b) := whole_cell g0 0
  have hc1 : w1.cell? ⟨w.heap.size + 1 + 1, 0, none⟩ = some (.bool false) := whole_cell g2 0
  have hc2 : w1.cell? ⟨w.heap.size + 1 + 1, 1, none⟩ = some (.slice none 0 0) := whole_cell g2 1
  have hf1 : w1.frozen? ⟨w.heap.size + 1 + 1, 0, none⟩ = false := whole_free g2 0
  have hf2 : w1.frozen? ⟨w.heap.size + 1 + 1, 1, none⟩ = false := whole_free g2 1
  have hz : zs.length ≤ 5000 := by omega
  have H1 := Lib.hid h1; have H2 := Lib.hid h2; have H3 := Lib.hid h3; have H4 := Lib.hid h4; have H5 := Lib.hid h5; have H6 := Lib.hid h6
  clear h1 h2 h3 h4 h5 h6 h7 g0 g1 g2 g3 g4 hd
  have fin : ∀ p u v g w2, p = (b && decide (0 < zs.length)) → g = w.heap.size + 1 + 1 → w2 = (w1.setCell ⟨g, 0, none⟩ u).setCell ⟨g, 1, none⟩ v → ∃ (C' : Option Addr) (zs' : List Nat) (k : Nat), Ending.returned (.agg #[.bool p, .slice C zs.length kk]) = .returned (.agg #[.bool (b && decide (0 < zs'.length)), .slice C' zs'.length k]) ∧ zs'.length ≤ k ∧ k ≤ maxLen ∧ Rd w2 C' zs' ∧
      zs'.length ≤ xs.length ∧ nv zs' = nv xs - nv ys ∧ trim zs' ∧ Below w.heap.size w w2 := by
    rintro p u v g w2 rfl rfl rfl
    exact ⟨C, zs, kk, rfl, H1.out, H2.out, H3.out.store2 (whole_cell G2.out 0) (whole_cell G2.out 1) _ _, H4.out, H5.out, H6.out, (G3.out.setCell (by simp; omega) _).setCell (by simp; omega) _⟩
  have FIN := Lib.hid fin; clear fin
  cases b
  · go_wp2_with fail
    refine bodyPost_ret (v := .agg #[.bool false, .slice C zs.length kk]) (by simp [results, Try.results42, go_sem, hc1, hc2]) rfl (FIN.out false _ _ _ _ rfl rfl rfl)
  · by_cases hl0 : 0 < zs.length
    · have h4 : decide ((0 : Int) < (zs.length : Int)) = true := decide_eq_true (by omega)
      have h5 : true = (true && decide (0 < zs.length)) := by rw [decide_eq_true hl0]; rfl
      have H9 := Lib.hid h5; clear h5
      go_wp2_with fail
      refine bodyPost_ret (v := .agg #[.bool true, .slice C zs.length kk]) (by simp [results, Try.results42, go_sem, hc1, hc2]) rfl (FIN.out true _ _ _ _ H9.out rfl rfl)
    · have h4 : decide ((0 : Int) < (zs.length : Int)) = false := decide_eq_false (by omega)
      have h5 : false = (true && decide (0 < zs.length)) := by rw [decide_eq_false hl0]; rfl
      have H9 := Lib.hid h5; clear h5
      go_wp2_with fail
      refine bodyPost_ret (v := .agg #[.bool false, .slice C zs.length kk]) (by simp [results, Try.results42, go_sem, hc1, hc2]) rfl (FIN.out false _ _ _ _ H9.out rfl rfl)

theorem plus_big (v u : Value) (x y : Int) (k l : Nat) (w : World) (hv : BV w v x k) (hu : BV w u y l) (hk : k ≤ 1000) (hl : l ≤ 1000) :
    Calls Try.prog 42 #[v, u] w fun e w' => ∃ t, e = .returned t ∧ BV w' t (x + y) (max k l + 1) ∧ Below w.heap.size w w' := by
  obtain ⟨A, xs, c, rfl, hr, _, _, hxl, hn, hxt⟩ := hv
  obtain ⟨B, ys, d, rfl, hs, _, _, hyl, hm, hyt⟩ := hu
  have px := len_pos hn hxt
  have py := len_pos hm hyt
  by_cases hb : decide (x < 0) = decide (y < 0)
  · rw [← hb]
    have hb' : x < 0 ↔ y < 0 := by simpa using hb
    refine (plus_same _ A B xs ys c d w hr hs (by omega) (by omega)).mono ?_
    rintro e w' ⟨C, zs, kk, rfl, h1, h2, h3, h4, h5, h6, h7⟩
    have hz : decide (x < 0) = decide (x + y < 0) := by rw [Bool.eq_iff_iff]; simp only [decide_eq_true_eq]; omega
    refine ⟨_, rfl, ⟨C, zs, kk, by rw [hz], h3, h1, h2, by omega, by omega, fun h => ?_⟩, h7⟩
    have := h6 h
    omega
  · have hb' : ¬ (x < 0 ↔ y < 0) := by simpa using hb
    have hb2 : decide (y < 0) = !decide (x < 0) := by cases h1 : decide (x < 0) <;> cases h2 : decide (y < 0) <;> simp_all
    rw [hb2]
    rcases Nat.lt_or_ge (nv xs) (nv ys) with hlt | hge
    · refine (plus_less _ A B xs ys c d w hr hs (by omega) (by omega) hlt).mono ?_
      rintro e w' ⟨C, zs, kk, rfl, h1, h2, h3, h4, h5, h6, h7⟩
      have hz : (!decide (x < 0)) = decide (x + y < 0) := by rw [← hb2, Bool.eq_iff_iff]; simp only [decide_eq_true_eq]; omega
      exact ⟨_, rfl, ⟨C, zs, kk, by rw [hz], h3, h1, h2, by omega, by omega, h6⟩, h7⟩
    · refine (plus_more _ A B xs ys c d w hr hs (by omega) (by omega) hge).mono ?_
      rintro e w' ⟨C, zs, kk, rfl, h1, h2, h3, h4, h5, h6, h7⟩
      have hl : nv zs = (x + y).natAbs := by omega
      have pz := len_pos hl h6
      have hz : (decide (x < 0) && decide (0 < zs.length)) = decide (x + y < 0) := by rw [Bool.eq_iff_iff]; simp only [Bool.and_eq_true, decide_eq_true_eq]; omega
      exact ⟨_, rfl, ⟨C, zs, kk, by rw [hz], h3, h1, h2, by omega, hl, h6⟩, h7⟩
end Go.Proofs.Ytbffpallhofonaa
