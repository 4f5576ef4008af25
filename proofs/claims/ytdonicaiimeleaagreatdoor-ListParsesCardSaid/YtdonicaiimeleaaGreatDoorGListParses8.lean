/- Merged: BigF, BigG, BigH. -/
import Derived.Test.YtdonicaiimeleaaGreatDoorGListParses7
import Derived.Deep.RegionWith
namespace Go.Proofs.YtdonicaiimeleaaGreatDoor
open Go.RowKit

/-- What a call that makes memory leaves of the three Bigs' cells that were made ahead of it. -/
theorem after_three {w w1 : World} {X Y : Array Value} {T : TypeId} (h : Below (w.heap.size + 3) (((w.alloc (.cells X T)).alloc (.cells Y T)).alloc (.cells #[.bool false, .slice none 0 0] T)) w1) :
    (w1.heap[w.heap.size]? = some (.cells X T (0, 0))) ∧ (w1.heap[w.heap.size + 1]? = some (.cells Y T (0, 0))) ∧ (w1.heap[w.heap.size + 2]? = some (.cells #[.bool false, .slice none 0 0] T (0, 0))) ∧ Below w.heap.size w w1 ∧ w.heap.size + 3 ≤ w1.heap.size := by
  have e0 := heap_alloc_new w (.cells X T)
  have e1 := heap_alloc_new (w.alloc (.cells X T)) (.cells Y T)
  have e2 := heap_alloc_new ((w.alloc (.cells X T)).alloc (.cells Y T)) (.cells #[.bool false, .slice none 0 0] T)
  simp only [World.size_alloc] at e1 e2
  refine ⟨?_, ?_, ?_, ?_, ?_⟩
  · rw [h.block _ (by omega), Below.heap_alloc _ _ _ (by simp; omega), Below.heap_alloc _ _ _ (by simp)]; exact e0
  · rw [h.block _ (by omega), Below.heap_alloc _ _ _ (by simp)]; exact e1
  · rw [h.block _ (by omega)]; exact e2
  · exact (((Below.refl _ _).alloc (Nat.le_refl _) _).alloc (by simp) _).alloc (by simp; omega) _ |>.trans (h.mono (by omega))
  · have := h.size; simpa using this

theorem below_of_drew {B : Nat} {w w1 : World} (h : Below B w.drew w1) : Below B w w1 := ⟨h.os, h.tape, h.output, h.size, h.block⟩

set_option maxRecDepth 10000 in
set_option maxHeartbeats 1600000 in
theorem plus_same (b : Bool) (A B : Option Addr) (xs ys : List Nat) (c d : Nat) (w : World) (hr : Rd w A xs) (hs : Rd w B ys) (hx : xs.length ≤ 1000) (hy : ys.length ≤ 1000) :
    Calls Tryz.prog 146 #[.agg #[.bool b, .slice A xs.length c], .agg #[.bool b, .slice B ys.length d]] w fun e w' => ∃ (C : Option Addr) (zs : List Nat) (k : Nat), e = .returned (.agg #[.bool b, .slice C zs.length k]) ∧ zs.length ≤ k ∧ k ≤ maxLen ∧ Rd w' C zs ∧
      zs.length ≤ max xs.length ys.length + 1 ∧ nv zs = nv xs + nv ys ∧ (0 < zs.length → 0 < xs.length ∨ 0 < ys.length) ∧ Below w.heap.size w w' := by
  have HR := Lib.hid hr; have HS := Lib.hid hs
  clear hr hs
  have hx1 : xs.length ≤ 5000 := by omega
  have hy1 : ys.length ≤ 5000 := by omega
  go_enter Tryz.func146, Tryz.ntmps146
  go_wp2_with fail
  go_region_with (go_at_call 177; refine (plus_any _ _ _ _ _ _ _ ?_ ?_ hx1 hy1).mono ?_; exact HR.out.below (by go_grown); exact HS.out.below (by go_grown); rintro e w1 ⟨C, zs, kk, rfl, h1, h2, h3, h4, h5, h6, h7⟩; obtain ⟨g0, g1, g2, g3, g4⟩ := after_three (below_of_drew (h7.mono (by simp))); have G2 := Lib.hid g2; have G3 := Lib.hid g3; have hc0 : w1.cell? ⟨w.heap.size, 0, none⟩ = some (.bool b) := whole_cell g0 0; have hc1 : w1.cell? ⟨w.heap.size + 1 + 1, 0, none⟩ = some (.bool false) := whole_cell g2 0; have hc2 : w1.cell? ⟨w.heap.size + 1 + 1, 1, none⟩ = some (.slice none 0 0) := whole_cell g2 1; have hf1 : w1.frozen? ⟨w.heap.size + 1 + 1, 0, none⟩ = false := whole_free g2 0; have hf2 : w1.frozen? ⟨w.heap.size + 1 + 1, 1, none⟩ = false := whole_free g2 1; have H1 := Lib.hid h1; have H2 := Lib.hid h2; have H3 := Lib.hid h3; have H4 := Lib.hid h4; have H5 := Lib.hid h5; have H6 := Lib.hid h6; clear h1 h2 h3 h4 h5 h6 h7 g0 g1 g2 g3 g4)
  all_goals
    go_wp2_with fail
    refine bodyPost_ret (v := .agg #[.bool b, .slice C zs.length kk]) (by simp [results, Tryz.results146, go_sem, hc1, hc2]) rfl ?_
    exact ⟨C, zs, kk, rfl, H1.out, H2.out, H3.out.store2 (whole_cell G2.out 0) (whole_cell G2.out 1) _ _, H4.out, H5.out, H6.out, (G3.out.setCell (by simp; omega) _).setCell (by simp; omega) _⟩

set_option maxRecDepth 10000 in
set_option maxHeartbeats 1600000 in
theorem plus_less (b : Bool) (A B : Option Addr) (xs ys : List Nat) (c d : Nat) (w : World) (hr : Rd w A xs) (hs : Rd w B ys) (hx : xs.length ≤ 1000) (hy : ys.length ≤ 1000) (hlt : nv xs < nv ys) :
    Calls Tryz.prog 146 #[.agg #[.bool b, .slice A xs.length c], .agg #[.bool (!b), .slice B ys.length d]] w fun e w' => ∃ (C : Option Addr) (zs : List Nat) (k : Nat), e = .returned (.agg #[.bool (!b), .slice C zs.length k]) ∧ zs.length ≤ k ∧ k ≤ maxLen ∧ Rd w' C zs ∧
      zs.length ≤ ys.length ∧ nv zs = nv ys - nv xs ∧ trim zs ∧ Below w.heap.size w w' := by
  have HR := Lib.hid hr; have HS := Lib.hid hs
  clear hr hs
  have hx1 : xs.length ≤ 10000 := by omega
  have hy1 : ys.length ≤ 10000 := by omega
  have hy5 : ys.length ≤ 5000 := by omega
  have hd : decide (nv xs < nv ys) = true := by simp [hlt]
  have HG : Hid (nv xs ≤ nv ys) := by show _ ≤ _; omega
  have hbb : (b == !b) = false := by cases b <;> rfl
  go_enter Tryz.func146, Tryz.ntmps146
  go_wp2_with (go_at_call 176; refine (less_any _ _ _ _ _ _ _ (HR.out.below (by go_grown)) (HS.out.below (by go_grown)) hx1 hy1).mono ?_; rintro e w' ⟨rfl, rfl⟩)
  clear hd hlt
  go_region_with (go_at_call 178; refine (minus_any _ _ _ _ _ _ _ ?_ ?_ hy5 HG.out).mono ?_; exact HS.out.below (by go_grown); exact HR.out.below (by go_grown); rintro e w1 ⟨C, zs, kk, rfl, h1, h2, h3, h4, h5, h6, h7⟩; obtain ⟨g0, g1, g2, g3, g4⟩ := after_three (below_of_drew (h7.mono (by simp))); have G2 := Lib.hid g2; have G3 := Lib.hid g3; have hc0 : w1.cell? ⟨w.heap.size + 1, 0, none⟩ = some (.bool (!b)) := whole_cell g1 0; have hc1 : w1.cell? ⟨w.heap.size + 1 + 1, 0, none⟩ = some (.bool false) := whole_cell g2 0; have hc2 : w1.cell? ⟨w.heap.size + 1 + 1, 1, none⟩ = some (.slice none 0 0) := whole_cell g2 1; have hf1 : w1.frozen? ⟨w.heap.size + 1 + 1, 0, none⟩ = false := whole_free g2 0; have hf2 : w1.frozen? ⟨w.heap.size + 1 + 1, 1, none⟩ = false := whole_free g2 1; have H1 := Lib.hid h1; have H2 := Lib.hid h2; have H3 := Lib.hid h3; have H4 := Lib.hid h4; have H5 := Lib.hid h5; have H6 := Lib.hid h6; clear h1 h2 h3 h4 h5 h6 h7 g0 g1 g2 g3 g4)
  all_goals
    go_wp2_with fail
    refine bodyPost_ret (v := .agg #[.bool (!b), .slice C zs.length kk]) (by simp [results, Tryz.results146, go_sem, hc1, hc2]) rfl ?_
    exact ⟨C, zs, kk, rfl, H1.out, H2.out, H3.out.store2 (whole_cell G2.out 0) (whole_cell G2.out 1) _ _, H4.out, H5.out, H6.out, (G3.out.setCell (by simp; omega) _).setCell (by simp; omega) _⟩

end Go.Proofs.YtdonicaiimeleaaGreatDoor

namespace Go.Proofs.YtdonicaiimeleaaGreatDoor
open Go.RowKit

set_option maxRecDepth 10000 in
set_option maxHeartbeats 1600000 in
theorem plus_more (b : Bool) (A B : Option Addr) (xs ys : List Nat) (c d : Nat) (w : World) (hr : Rd w A xs) (hs : Rd w B ys) (hx : xs.length ≤ 1000) (hy : ys.length ≤ 1000) (hge : nv ys ≤ nv xs) :
    Calls Tryz.prog 146 #[.agg #[.bool b, .slice A xs.length c], .agg #[.bool (!b), .slice B ys.length d]] w fun e w' => ∃ (C : Option Addr) (zs : List Nat) (k : Nat), e = .returned (.agg #[.bool (b && decide (0 < zs.length)), .slice C zs.length k]) ∧ zs.length ≤ k ∧ k ≤ maxLen ∧ Rd w' C zs ∧
      zs.length ≤ xs.length ∧ nv zs = nv xs - nv ys ∧ trim zs ∧ Below w.heap.size w w' := by
  have HR := Lib.hid hr; have HS := Lib.hid hs
  clear hr hs
  have hx1 : xs.length ≤ 10000 := by omega
  have hy1 : ys.length ≤ 10000 := by omega
  have hx5 : xs.length ≤ 5000 := by omega
  have hd : decide (nv xs < nv ys) = false := by simp; omega
  have HG := Lib.hid hge; clear hge
  have hbb : (b == !b) = false := by cases b <;> rfl
  go_enter Tryz.func146, Tryz.ntmps146
  go_wp2_with fail
  refine (less_any _ _ _ _ _ _ _ (HR.out.below (by go_grown)) (HS.out.below (by go_grown)) hx1 hy1).mono ?_
  rintro e w' ⟨rfl, rfl⟩
  go_wp2_with fail
  refine (minus_any _ _ _ _ _ _ _ (HR.out.below (by go_grown)) (HS.out.below (by go_grown)) hx5 HG.out).mono ?_
  rintro e w1 ⟨C, zs, kk, rfl, h1, h2, h3, h4, h5, h6, h7⟩
  obtain ⟨g0, g1, g2, g3, g4⟩ := after_three (h7.mono (by simp))
  have G2 := Lib.hid g2; have G3 := Lib.hid g3
  have hc0 : w1.cell? ⟨w.heap.size, 0, none⟩ = some (.bool b) := whole_cell g0 0
  have hc1 : w1.cell? ⟨w.heap.size + 1 + 1, 0, none⟩ = some (.bool false) := whole_cell g2 0
  have hc2 : w1.cell? ⟨w.heap.size + 1 + 1, 1, none⟩ = some (.slice none 0 0) := whole_cell g2 1
  have hf1 : w1.frozen? ⟨w.heap.size + 1 + 1, 0, none⟩ = false := whole_free g2 0
  have hf2 : w1.frozen? ⟨w.heap.size + 1 + 1, 1, none⟩ = false := whole_free g2 1
  have hz : zs.length ≤ 5000 := by omega
  have H1 := Lib.hid h1; have H2 := Lib.hid h2; have H3 := Lib.hid h3; have H4 := Lib.hid h4; have H5 := Lib.hid h5; have H6 := Lib.hid h6
  clear h1 h2 h3 h4 h5 h6 h7 g0 g1 g2 g3 g4 hd
  have fin : ∀ p u v g w2, p = (b && decide (0 < zs.length)) → g = w.heap.size + 1 + 1 → w2 = (w1.setCell ⟨g, 0, none⟩ u).setCell ⟨g, 1, none⟩ v → ∃ (C' : Option Addr) (zs' : List Nat) (k : Nat), Ending.returned (.agg #[.bool p, .slice C zs.length kk]) = .returned (.agg #[.bool (b && decide (0 < zs'.length)), .slice C' zs'.length k]) ∧ zs'.length ≤ k ∧ k ≤ maxLen ∧ Rd w2 C' zs' ∧
      zs'.length ≤ xs.length ∧ nv zs' = nv xs - nv ys ∧ trim zs' ∧ Below w.heap.size w w2 := by
    rintro p u v g w2 rfl rfl rfl
    exact ⟨C, zs, kk, rfl, H1.out, H2.out, H3.out.store2 (whole_cell G2.out 0) (whole_cell G2.out 1) _ _, H4.out, H5.out, H6.out, (G3.out.setCell (by simp; omega) _).setCell (by simp; omega) _⟩
  have FIN := Lib.hid fin; clear fin
  cases b
  · go_wp2_with fail
    refine bodyPost_ret (v := .agg #[.bool false, .slice C zs.length kk]) (by simp [results, Tryz.results146, go_sem, hc1, hc2]) rfl (FIN.out false _ _ _ _ rfl rfl rfl)
  · by_cases hl0 : 0 < zs.length
    · have h4 : decide ((0 : Int) < (zs.length : Int)) = true := decide_eq_true (by omega)
      have h5 : true = (true && decide (0 < zs.length)) := by rw [decide_eq_true hl0]; rfl
      have H9 := Lib.hid h5; clear h5
      go_wp2_with fail
      refine bodyPost_ret (v := .agg #[.bool true, .slice C zs.length kk]) (by simp [results, Tryz.results146, go_sem, hc1, hc2]) rfl (FIN.out true _ _ _ _ H9.out rfl rfl)
    · have h4 : decide ((0 : Int) < (zs.length : Int)) = false := decide_eq_false (by omega)
      have h5 : false = (true && decide (0 < zs.length)) := by rw [decide_eq_false hl0]; rfl
      have H9 := Lib.hid h5; clear h5
      go_wp2_with fail
      refine bodyPost_ret (v := .agg #[.bool false, .slice C zs.length kk]) (by simp [results, Tryz.results146, go_sem, hc1, hc2]) rfl (FIN.out false _ _ _ _ H9.out rfl rfl)

theorem plus_big (v u : Value) (x y : Int) (k l : Nat) (w : World) (hv : BV w v x k) (hu : BV w u y l) (hk : k ≤ 1000) (hl : l ≤ 1000) :
    Calls Tryz.prog 146 #[v, u] w fun e w' => ∃ t, e = .returned t ∧ BV w' t (x + y) (max k l + 1) ∧ Below w.heap.size w w' := by
  obtain ⟨A, xs, c, rfl, hr, _, _, hxl, hn, hxt⟩ := hv
  obtain ⟨B, ys, d, rfl, hs, _, _, hyl, hm, hyt⟩ := hu
  have px := len_pos hn hxt
  have py := len_pos hm hyt
  by_cases hb : decide (x < 0) = decide (y < 0)
  · rw [← hb]
    have hb' : x < 0 ↔ y < 0 := by simpa using hb
    refine (plus_same _ A B xs ys c d w hr hs (by omega) (by omega)).mono ?_
    rintro e w' ⟨C, zs, kk, rfl, h1, h2, h3, h4, h5, h6, h7⟩
    have hz : decide (x < 0) = decide (x + y < 0) := by rw [Bool.eq_iff_iff]; simp only [decide_eq_true_eq]; omega
    refine ⟨_, rfl, ⟨C, zs, kk, by rw [hz], h3, h1, h2, by omega, by omega, fun h => ?_⟩, h7⟩
    have := h6 h
    omega
  · have hb' : ¬ (x < 0 ↔ y < 0) := by simpa using hb
    have hb2 : decide (y < 0) = !decide (x < 0) := by cases h1 : decide (x < 0) <;> cases h2 : decide (y < 0) <;> simp_all
    rw [hb2]
    rcases Nat.lt_or_ge (nv xs) (nv ys) with hlt | hge
    · refine (plus_less _ A B xs ys c d w hr hs (by omega) (by omega) hlt).mono ?_
      rintro e w' ⟨C, zs, kk, rfl, h1, h2, h3, h4, h5, h6, h7⟩
      have hz : (!decide (x < 0)) = decide (x + y < 0) := by rw [← hb2, Bool.eq_iff_iff]; simp only [decide_eq_true_eq]; omega
      exact ⟨_, rfl, ⟨C, zs, kk, by rw [hz], h3, h1, h2, by omega, by omega, h6⟩, h7⟩
    · refine (plus_more _ A B xs ys c d w hr hs (by omega) (by omega) hge).mono ?_
      rintro e w' ⟨C, zs, kk, rfl, h1, h2, h3, h4, h5, h6, h7⟩
      have hl : nv zs = (x + y).natAbs := by omega
      have pz := len_pos hl h6
      have hz : (decide (x < 0) && decide (0 < zs.length)) = decide (x + y < 0) := by rw [Bool.eq_iff_iff]; simp only [Bool.and_eq_true, decide_eq_true_eq]; omega
      exact ⟨_, rfl, ⟨C, zs, kk, by rw [hz], h3, h1, h2, by omega, hl, h6⟩, h7⟩
end Go.Proofs.YtdonicaiimeleaaGreatDoor

namespace Go.Proofs.YtdonicaiimeleaaGreatDoor
open Go.RowKit

theorem vd_le (ds : List Nat) : ∀ i, vd ds i ≤ nv ds := by
  intro i
  induction i with
  | zero => exact Nat.le_refl _
  | succ i ih => have := vd_step ds i; omega

/-- The part of the number that the digits from i on are, with the number's sign. -/
def part (z : Int) (ds : List Nat) (i : Nat) : Int := if z < 0 then - (vd ds i : Int) else vd ds i
theorem part_fit {z : Int} {ds : List Nat} (hn : nv ds = z.natAbs) (hf : fits z) (i : Nat) : fits (part z ds i) := by
  have := vd_le ds i
  unfold part fits at *
  split <;> omega
theorem part_zero {z : Int} {ds : List Nat} (hn : nv ds = z.natAbs) : part z ds 0 = z := by
  unfold part; rw [vd_zero, hn]; split <;> omega
theorem part_end {z : Int} {ds : List Nat} {i : Nat} (h : ds.length ≤ i) : part z ds i = 0 := by
  unfold part; rw [vd_end h]; split <;> rfl
theorem part_step_neg {z : Int} (ds : List Nat) (h : z < 0) (i : Nat) : part z ds i = part z ds (i + 1) * 65536 - dg ds i := by
  unfold part; rw [if_pos h, if_pos h]; have := vd_step ds i; omega
theorem part_step_pos {z : Int} (ds : List Nat) (h : ¬ z < 0) (i : Nat) : part z ds i = part z ds (i + 1) * 65536 + dg ds i := by
  unfold part; rw [if_neg h, if_neg h]; have := vd_step ds i; omega
theorem part_mid {z : Int} {ds : List Nat} (hn : nv ds = z.natAbs) (hf : fits z) (i : Nat) : fits (part z ds (i + 1) * 65536) := by
  have h1 := vd_le ds i; have h2 := vd_step ds i
  unfold part fits at *
  split <;> omega

theorem after_two {w w1 : World} {X Y : Array Value} {T : TypeId} (h : Below (w.heap.size + 2) ((w.alloc (.cells X T)).alloc (.cells Y T)) w1) :
    (w1.heap[w.heap.size]? = some (.cells X T (0, 0))) ∧ (w1.heap[w.heap.size + 1]? = some (.cells Y T (0, 0))) ∧ Below w.heap.size w w1 ∧ w.heap.size + 2 ≤ w1.heap.size := by
  have e0 := heap_alloc_new w (.cells X T)
  have e1 := heap_alloc_new (w.alloc (.cells X T)) (.cells Y T)
  simp only [World.size_alloc] at e1
  refine ⟨?_, ?_, ?_, ?_⟩
  · rw [h.block _ (by omega), Below.heap_alloc _ _ _ (by simp)]; exact e0
  · rw [h.block _ (by omega)]; exact e1
  · exact ((Below.refl _ _).alloc (Nat.le_refl _) _).alloc (by simp) _ |>.trans (h.mono (by omega))
  · have := h.size; simpa using this

set_option maxRecDepth 10000 in
set_option maxHeartbeats 1600000 in
theorem small_any (v : Value) (z : Int) (k : Nat) (w : World) (hv : BV w v z k) (hk : k ≤ 1000) :
    Calls Tryz.prog 111 #[v] w fun e w' => e = .returned (.tuple #[.int .i64 (sm z), .int .i64 (bad z)]) ∧ Below w.heap.size w w' := by
  have HV := Lib.hid hv; clear hv
  obtain ⟨A, ds, c, rfl, hr, _, _, hl, hn, _⟩ := HV.out
  have HR := Lib.hid hr; have HN := Lib.hid hn; clear hr hn
  have hlen : ds.length ≤ 1000 := by omega
  clear hl
  go_enter Tryz.func111, Tryz.ntmps111
  go_wp2_with fail
  refine (of_any _ _ (by decide)).mono ?_
  rintro e w1 ⟨v1, rfl, b1, hb1⟩
  have hw1 : Below (w.heap.size + 1) (w.alloc (.cells #[.bool (decide (z < 0)), .slice A ds.length c] 184)) w1 := by simpa using hb1
  have B1 : Hid (Below w.heap.size w w1) := ((Below.refl _ _).alloc (Nat.le_refl _) _).trans (hw1.mono (by omega))
  have W1 := Lib.hid (new_whole hw1)
  have S1 : w.heap.size + 1 ≤ w1.heap.size := by have := hw1.size; simpa using this
  have V1 := Lib.hid b1
  clear b1 hb1 hw1
  go_wp2_with fail
  refine (of_any _ _ (by decide)).mono ?_
  rintro e w2 ⟨v2, rfl, b2, hb2⟩
  have B2 : Hid (Below w.heap.size w w2) := B1.out.trans (hb2.mono (by omega))
  have hb2' := hb2
  have W2 : Hid (w2.heap[w.heap.size]? = some (.cells #[.bool (decide (z < 0)), .slice A ds.length c] 184 (0, 0))) := (hb2.block _ (by omega)).trans W1.out
  have S2 : w.heap.size + 1 ≤ w2.heap.size := by have := hb2.size; omega
  have V2 := Lib.hid b2
  have V1' := Lib.hid (V1.out.below hb2)
  clear b2 hb2 hb2' V1 W1 B1 S1
  obtain ⟨A1, d1, c1, rfl, _⟩ := V1'.out
  obtain ⟨A2, d2, c2, rfl, _⟩ := V2.out
  have hc0 : w2.cell? ⟨w.heap.size, 0, none⟩ = some (.bool (decide (z < 0))) := whole_cell W2.out 0
  have hc1 : w2.cell? ⟨w.heap.size, 1, none⟩ = some (.slice A ds.length c) := whole_cell W2.out 1
  have hlt : w.heap.size < w2.heap.size := by omega
  go_wp2_with fail
  refine (less_big _ _ z (-9223372036854775808) k 4 _ (HV.out.below ?_) (V1'.out.below ?_) hk (by omega)).mono ?_
  · exact B2.out.trans (by go_grown)
  · go_grown
  rintro e w3 ⟨rfl, hb3⟩
  obtain ⟨g1, g2, g3, g4⟩ := after_two (by simpa using hb3)
  have B3 : Hid (Below w.heap.size w w3) := B2.out.trans (g3.mono (by omega))
  have W3 : Hid (w3.heap[w.heap.size]? = some (.cells #[.bool (decide (z < 0)), .slice A ds.length c] 184 (0, 0))) := (g3.block _ (by omega)).trans W2.out
  have V2' := Lib.hid (V2.out.below g3)
  have S3 : w.heap.size < w3.heap.size := by omega
  have hd0 : w3.cell? ⟨w.heap.size, 0, none⟩ = some (.bool (decide (z < 0))) := whole_cell W3.out 0
  have hd1 : w3.cell? ⟨w.heap.size, 1, none⟩ = some (.slice A ds.length c) := whole_cell W3.out 1
  have he0 : w3.cell? ⟨w2.heap.size + 1, 0, none⟩ = some (.bool false) := whole_cell g2 0
  have he1 : w3.cell? ⟨w2.heap.size + 1, 1, none⟩ = some (.slice A2 d2.length c2) := whole_cell g2 1
  clear hb3 g1 g2 g3 g4 hc0 hc1
  by_cases hlo : z < -9223372036854775808
  · have hlo' : decide (z < -9223372036854775808) = true := decide_eq_true hlo
    have nf : Hid (¬ fits z) := fun h => by unfold fits at h; omega
    clear hlo
    go_wp2_with fail
    go_ret2
    exact ⟨ret2_eq (int_eq (sm_no nf.out).symm) (int_eq (bad_no nf.out).symm), B3.out⟩
  have hlo' : decide (z < -9223372036854775808) = false := decide_eq_false hlo
  have LO := Lib.hid hlo; clear hlo
  go_wp2_with fail
  refine (less_big _ _ 9223372036854775807 z 4 k _ V2'.out (HV.out.below B3.out) (by omega) hk).mono ?_
  rintro e w4 ⟨rfl, hb4⟩
  have B4 : Hid (Below w.heap.size w w4) := B3.out.trans (hb4.mono (by omega))
  have W4 : Hid (w4.heap[w.heap.size]? = some (.cells #[.bool (decide (z < 0)), .slice A ds.length c] 184 (0, 0))) := (hb4.block _ (by omega)).trans W3.out
  have hk0 : w4.cell? ⟨w.heap.size, 0, none⟩ = some (.bool (decide (z < 0))) := whole_cell W4.out 0
  have hk1 : w4.cell? ⟨w.heap.size, 1, none⟩ = some (.slice A ds.length c) := whole_cell W4.out 1
  clear hb4 hd0 hd1 he0 he1
  by_cases hhi : 9223372036854775807 < z
  · have hhi' : decide (9223372036854775807 < z) = true := decide_eq_true hhi
    have nf : Hid (¬ fits z) := fun h => by unfold fits at h; omega
    clear hhi
    go_wp2_with fail
    go_ret2
    exact ⟨ret2_eq (int_eq (sm_no nf.out).symm) (int_eq (bad_no nf.out).symm), B4.out⟩
  have hhi' : decide (9223372036854775807 < z) = false := decide_eq_false hhi
  have HF : Hid (fits z) := by have := LO.out; unfold fits; exact ⟨by omega, by omega⟩
  clear hhi
  have HR4 := Lib.hid (HR.out.below B4.out)
  go_wp2_with fail
  clear hlo' hhi'
  have start : ∀ n : Nat, ds.length = n → (Value.int .i64 ((n : Int) - 1) = .int .i64 (-1) ∧ (0 : Int) = part z ds 0) ∨ ∃ m : Nat, Value.int .i64 ((n : Int) - 1) = .int .i64 m ∧ m < n ∧ (0 : Int) = part z ds (m + 1) := by
    intro n hn
    cases n with
    | zero => exact .inl ⟨rfl, (part_end (by omega)).symm⟩
    | succ m => exact .inr ⟨m, int_eq (by omega), by omega, (part_end (by omega)).symm⟩
  have ST := Lib.hid start; clear start
  go_loop [6, 7] (fun s t => ∃ n : Int, s = .int .i64 n ∧ ((t = .int .i64 (-1) ∧ n = part z ds 0) ∨ ∃ m : Nat, t = .int .i64 m ∧ m < ds.length ∧ n = part z ds (m + 1))) (fun _ t => (intOf t + 1).toNat)
  case atStart => exact ⟨0, rfl, ST.out _ rfl⟩
  case round =>
    obtain ⟨n, rfl, hcase⟩ := hrel
    clear ST
    rcases hcase with ⟨rfl, hn⟩ | ⟨m, rfl, hm, hn⟩
    · have H := Lib.hid hn; clear hn
      go_wp2_with fail
      go_ret2
      exact ⟨ret2_eq (int_eq (by rw [sm_fit HF.out, H.out, part_zero HN.out])) (int_eq (bad_fit HF.out).symm), B4.out⟩
    · have p1 := part_fit HN.out HF.out m
      have p2 := part_mid HN.out HF.out m
      have p3 := part_fit HN.out HF.out (m + 1)
      unfold fits at p1 p2 p3
      have hd := dg_low HR.out.1 m
      obtain ⟨b, rfl, hblt, hcell⟩ := HR4.out.cell hm
      have H := Lib.hid hn
      by_cases hz : z < 0
      · have hz' : decide (z < 0) = true := decide_eq_true hz
        rw [part_step_neg ds hz m] at p1
        have q := Lib.hid (part_step_neg ds hz m)
        rw [← hn] at p1 p2 p3
        clear hn hz
        go_wp2_with fail
        go_round
        case rel =>
          refine ⟨_, rfl, ?_⟩
          cases m with
          | zero => exact .inl ⟨rfl, by rw [q.out, H.out]⟩
          | succ m => exact .inr ⟨m, int_eq (by omega), by omega, by rw [q.out, H.out]⟩
        case measure => simp [intOf]
      · have hz' : decide (z < 0) = false := decide_eq_false hz
        rw [part_step_pos ds hz m] at p1
        have q := Lib.hid (part_step_pos ds hz m)
        rw [← hn] at p1 p2 p3
        clear hn hz
        go_wp2_with fail
        go_round
        case rel =>
          refine ⟨_, rfl, ?_⟩
          cases m with
          | zero => exact .inl ⟨rfl, by rw [q.out, H.out]⟩
          | succ m => exact .inr ⟨m, int_eq (by omega), by omega, by rw [q.out, H.out]⟩
        case measure => simp [intOf]
end Go.Proofs.YtdonicaiimeleaaGreatDoor
