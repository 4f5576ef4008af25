/- Plus: two sums and two differences. -/
import Derived.Test.YtbffpallhofonaaBigE
import Derived.Deep.RegionWith
namespace Go.Proofs.Ytbffpallhofonaa
open Go.RowKit

/-- What a call that makes memory leaves of the three Bigs' cells that were made ahead of it. -/
theorem after_three {w w1 : World} {X Y : Array Value} {T : TypeId} (h : Below (w.heap.size + 3) (((w.alloc (.cells X T)).alloc (.cells Y T)).alloc (.cells #[.bool false, .slice none 0 0] T)) w1) :
    (w1.heap[w.heap.size]? = some (.cells X T (0, 0))) ∧ (w1.heap[w.heap.size + 1]? = some (.cells Y T (0, 0))) ∧ (w1.heap[w.heap.size + 2]? = some (.cells #[.bool false, .slice none 0 0] T (0, 0))) ∧ Below w.heap.size w w1 ∧ w.heap.size + 3 ≤ w1.heap.size := by
  have e0 := heap_alloc_new w (.cells X T)
  have e1 := heap_alloc_new (w.alloc (.cells X T)) (.cells Y T)
  have e2 := heap_alloc_new ((w.alloc (.cells X T)).alloc (.cells Y T)) (.cells #[.bool false, .slice none 0 0] T)
  simp only [World.size_alloc] at e1 e2
  refine ⟨?_, ?_, ?_, ?_, ?_⟩
  · rw [h.block _ (by omega), Below.heap_alloc _ _ _ (by simp; omega), Below.heap_alloc _ _ _ (by simp)]; exact e0
  · rw [h.block _ (by omega), Below.heap_alloc _ _ _ (by simp)]; exact e1
  · rw [h.block _ (by omega)]; exact e2
  · exact (((Below.refl _ _).alloc (Nat.le_refl _) _).alloc (by simp) _).alloc (by simp; omega) _ |>.trans (h.mono (by omega))
  · have := h.size; simpa using this

theorem below_of_drew {B : Nat} {w w1 : World} (h : Below B w.drew w1) : Below B w w1 := ⟨h.os, h.tape, h.output, h.size, h.block⟩

set_option maxRecDepth 10000 in
set_option maxHeartbeats 1600000 in
theorem plus_same (b : Bool) (A B : Option Addr) (xs ys : List Nat) (c d : Nat) (w : World) (hr : Rd w A xs) (hs : Rd w B ys) (hx : xs.length ≤ 1000) (hy : ys.length ≤ 1000) :
    Calls Try.prog 42 #[.agg #[.bool b, .slice A xs.length c], .agg #[.bool b, .slice B ys.length d]] w fun e w' => ∃ (C : Option Addr) (zs : List Nat) (k : Nat), e = .returned (.agg #[.bool b, .slice C zs.length k]) ∧ zs.length ≤ k ∧ k ≤ maxLen ∧ Rd w' C zs ∧
      zs.length ≤ max xs.length ys.length + 1 ∧ nv zs = nv xs + nv ys ∧ (0 < zs.length → 0 < xs.length ∨ 0 < ys.length) ∧ Below w.heap.size w w' := by
  have HR := Lib.hid hr; have HS := Lib.hid hs
  clear hr hs
  have hx1 : xs.length ≤ 5000 := by omega
  have hy1 : ys.length ≤ 5000 := by omega
  go_enter Try.func42, Try.ntmps42
  go_wp2_with fail
  go_region_with (go_at_call 59; refine (plus_any _ _ _ _ _ _ _ ?_ ?_ hx1 hy1).mono ?_; exact HR.out.below (by go_grown); exact HS.out.below (by go_grown); rintro e w1 ⟨C, zs, kk, rfl, h1, h2, h3, h4, h5, h6, h7⟩; obtain ⟨g0, g1, g2, g3, g4⟩ := after_three (below_of_drew (h7.mono (by simp))); have G2 := Lib.hid g2; have G3 := Lib.hid g3; have hc0 : w1.cell? ⟨w.heap.size, 0, none⟩ = some (.bool b) := whole_cell g0 0; have hc1 : w1.cell? ⟨w.heap.size + 1 + 1, 0, none⟩ = some (.bool false) := whole_cell g2 0; have hc2 : w1.cell? ⟨w.heap.size + 1 + 1, 1, none⟩ = some (.slice none 0 0) := whole_cell g2 1; have hf1 : w1.frozen? ⟨w.heap.size + 1 + 1, 0, none⟩ = false := whole_free g2 0; have hf2 : w1.frozen? ⟨w.heap.size + 1 + 1, 1, none⟩ = false := whole_free g2 1; have H1 := Lib.hid h1; have H2 := Lib.hid h2; have H3 := Lib.hid h3; have H4 := Lib.hid h4; have H5 := Lib.hid h5; have H6 := Lib.hid h6; clear h1 h2 h3 h4 h5 h6 h7 g0 g1 g2 g3 g4)
  all_goals
    go_wp2_with fail
    refine bodyPost_ret (v := .agg #[.bool b, .slice C zs.length kk]) (by simp [results, Try.results42, go_sem, hc1, hc2]) rfl ?_
    exact ⟨C, zs, kk, rfl, H1.out, H2.out, H3.out.store2 (whole_cell G2.out 0) (whole_cell G2.out 1) _ _, H4.out, H5.out, H6.out, (G3.out.setCell (by simp; omega) _).setCell (by simp; omega) _⟩

set_option maxRecDepth 10000 in
set_option maxHeartbeats 1600000 in
theorem plus_less (b : Bool) (A B : Option Addr) (xs ys : List Nat) (c d : Nat) (w : World) (hr : Rd w A xs) (hs : Rd w B ys) (hx : xs.length ≤ 1000) (hy : ys.length ≤ 1000) (hlt : nv xs < nv ys) :
    Calls Try.prog 42 #[.agg #[.bool b, .slice A xs.length c], .agg #[.bool (!b), .slice B ys.length d]] w fun e w' => ∃ (C : Option Addr) (zs : List Nat) (k : Nat), e = .returned (.agg #[.bool (!b), .slice C zs.length k]) ∧ zs.length ≤ k ∧ k ≤ maxLen ∧ Rd w' C zs ∧
      zs.length ≤ ys.length ∧ nv zs = nv ys - nv xs ∧ trim zs ∧ Below w.heap.size w w' := by
  have HR := Lib.hid hr; have HS := Lib.hid hs
  clear hr hs
  have hx1 : xs.length ≤ 10000 := by omega
  have hy1 : ys.length ≤ 10000 := by omega
  have hy5 : ys.length ≤ 5000 := by omega
  have hd : decide (nv xs < nv ys) = true := by simp [hlt]
  have HG : Hid (nv xs ≤ nv ys) := by show _ ≤ _; omega
  have hbb : (b == !b) = false := by cases b <;> rfl
  go_enter Try.func42, Try.ntmps42
  go_wp2_with (go_at_call 60; refine (less_any _ _ _ _ _ _ _ (HR.out.below (by go_grown)) (HS.out.below (by go_grown)) hx1 hy1).mono ?_; rintro e w' ⟨rfl, rfl⟩)
  clear hd hlt
  go_region_with (go_at_call 61; refine (minus_any _ _ _ _ _ _ _ ?_ ?_ hy5 HG.out).mono ?_; exact HS.out.below (by go_grown); exact HR.out.below (by go_grown); rintro e w1 ⟨C, zs, kk, rfl, h1, h2, h3, h4, h5, h6, h7⟩; obtain ⟨g0, g1, g2, g3, g4⟩ := after_three (below_of_drew (h7.mono (by simp))); have G2 := Lib.hid g2; have G3 := Lib.hid g3; have hc0 : w1.cell? ⟨w.heap.size + 1, 0, none⟩ = some (.bool (!b)) := whole_cell g1 0; have hc1 : w1.cell? ⟨w.heap.size + 1 + 1, 0, none⟩ = some (.bool false) := whole_cell g2 0; have hc2 : w1.cell? ⟨w.heap.size + 1 + 1, 1, none⟩ = some (.slice none 0 0) := whole_cell g2 1; have hf1 : w1.frozen? ⟨w.heap.size + 1 + 1, 0, none⟩ = false := whole_free g2 0; have hf2 : w1.frozen? ⟨w.heap.size + 1 + 1, 1, none⟩ = false := whole_free g2 1; have H1 := Lib.hid h1; have H2 := Lib.hid h2; have H3 := Lib.hid h3; have H4 := Lib.hid h4; have H5 := Lib.hid h5; have H6 := Lib.hid h6; clear h1 h2 h3 h4 h5 h6 h7 g0 g1 g2 g3 g4)
  all_goals
    go_wp2_with fail
    refine bodyPost_ret (v := .agg #[.bool (!b), .slice C zs.length kk]) (by simp [results, Try.results42, go_sem, hc1, hc2]) rfl ?_
    exact ⟨C, zs, kk, rfl, H1.out, H2.out, H3.out.store2 (whole_cell G2.out 0) (whole_cell G2.out 1) _ _, H4.out, H5.out, H6.out, (G3.out.setCell (by simp; omega) _).setCell (by simp; omega) _⟩

end Go.Proofs.Ytbffpallhofonaa
