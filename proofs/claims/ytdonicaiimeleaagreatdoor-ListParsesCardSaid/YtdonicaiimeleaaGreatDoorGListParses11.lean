/- Merged: ListE. -/
import Derived.Test.YtdonicaiimeleaaGreatDoorGListParses10
namespace Go.Proofs.YtdonicaiimeleaaGreatDoor
open Go.RowKit Go.WideShapes Go.ChangeShapes
set_option linter.unusedVariables false
set_option linter.unusedSimpArgs false

/-- A Read's thirteen cells. -/
abbrev rc13 (v : Value) (u e m h s : Int) (x0 x1 x2 x3 x4 : Int) (f k : Int) : Array Value := #[v, .int .i64 u, .int .i64 e, .int .i64 m, .int .i64 h, .int .i64 s, .int .u32 x0, .int .u32 x1, .int .u32 x2, .int .u32 x3, .int .u32 x4, .int .i64 f, .int .i64 k]
/-- A Read's block. -/
def B13 (w : World) (g : Nat) (cs : Array Value) : Prop := w.heap[g]? = some (.cells cs 38 (0, 0))
theorem B13.keep {w w' : World} {g : Nat} {cs : Array Value} (h : B13 w g cs) (hb : Below w.heap.size w w') : B13 w' g cs := (hb.block g (bk_lt h)).trans h
theorem B13.all {w : World} {g : Nat} {b0 b1 b2 b3 b4 b5 b6 b7 b8 b9 b10 b11 b12 : Value} (h : B13 w g #[b0, b1, b2, b3, b4, b5, b6, b7, b8, b9, b10, b11, b12]) :
    w.cell? ⟨g, 0, none⟩ = some b0 ∧ w.cell? ⟨g, 1, none⟩ = some b1 ∧ w.cell? ⟨g, 2, none⟩ = some b2 ∧ w.cell? ⟨g, 3, none⟩ = some b3 ∧ w.cell? ⟨g, 4, none⟩ = some b4 ∧ w.cell? ⟨g, 5, none⟩ = some b5 ∧ w.cell? ⟨g, 6, none⟩ = some b6 ∧ w.cell? ⟨g, 7, none⟩ = some b7 ∧ w.cell? ⟨g, 8, none⟩ = some b8 ∧ w.cell? ⟨g, 9, none⟩ = some b9 ∧ w.cell? ⟨g, 10, none⟩ = some b10 ∧ w.cell? ⟨g, 11, none⟩ = some b11 ∧ w.cell? ⟨g, 12, none⟩ = some b12 :=
  ⟨bk_cell h 0, bk_cell h 1, bk_cell h 2, bk_cell h 3, bk_cell h 4, bk_cell h 5, bk_cell h 6, bk_cell h 7, bk_cell h 8, bk_cell h 9, bk_cell h 10, bk_cell h 11, bk_cell h 12⟩
theorem B13.frees {w : World} {g : Nat} {cs : Array Value} (h : B13 w g cs) : w.frozen? ⟨g, 0, none⟩ = false ∧ w.frozen? ⟨g, 1, none⟩ = false ∧ w.frozen? ⟨g, 2, none⟩ = false ∧ w.frozen? ⟨g, 3, none⟩ = false ∧ w.frozen? ⟨g, 4, none⟩ = false ∧ w.frozen? ⟨g, 5, none⟩ = false ∧ w.frozen? ⟨g, 6, none⟩ = false ∧ w.frozen? ⟨g, 7, none⟩ = false ∧ w.frozen? ⟨g, 8, none⟩ = false ∧ w.frozen? ⟨g, 9, none⟩ = false ∧ w.frozen? ⟨g, 10, none⟩ = false ∧ w.frozen? ⟨g, 11, none⟩ = false ∧ w.frozen? ⟨g, 12, none⟩ = false :=
  ⟨bk_free h 0, bk_free h 1, bk_free h 2, bk_free h 3, bk_free h 4, bk_free h 5, bk_free h 6, bk_free h 7, bk_free h 8, bk_free h 9, bk_free h 10, bk_free h 11, bk_free h 12⟩
abbrev put13 (W : World) (q : Nat) (a0 a1 a2 a3 a4 a5 a6 a7 a8 a9 a10 a11 a12 : Value) : World := (((((((((((((W.setCell ⟨q, 0, none⟩ a0).setCell ⟨q, 1, none⟩ a1).setCell ⟨q, 2, none⟩ a2).setCell ⟨q, 3, none⟩ a3).setCell ⟨q, 4, none⟩ a4).setCell ⟨q, 5, none⟩ a5).setCell ⟨q, 6, none⟩ a6).setCell ⟨q, 7, none⟩ a7).setCell ⟨q, 8, none⟩ a8).setCell ⟨q, 9, none⟩ a9).setCell ⟨q, 10, none⟩ a10).setCell ⟨q, 11, none⟩ a11).setCell ⟨q, 12, none⟩ a12)
theorem B13.put {W : World} {q : Nat} {b0 b1 b2 b3 b4 b5 b6 b7 b8 b9 b10 b11 b12 : Value} (h : B13 W q #[b0, b1, b2, b3, b4, b5, b6, b7, b8, b9, b10, b11, b12]) (a0 a1 a2 a3 a4 a5 a6 a7 a8 a9 a10 a11 a12 : Value) : B13 (put13 W q a0 a1 a2 a3 a4 a5 a6 a7 a8 a9 a10 a11 a12) q #[a0, a1, a2, a3, a4, a5, a6, a7, a8, a9, a10, a11, a12] := by
  have h0 := h
  have h1 : B13 (W.setCell ⟨q, 0, none⟩ a0) q #[a0, b1, b2, b3, b4, b5, b6, b7, b8, b9, b10, b11, b12] := bk_set h0 0 a0
  have h2 : B13 ((W.setCell ⟨q, 0, none⟩ a0).setCell ⟨q, 1, none⟩ a1) q #[a0, a1, b2, b3, b4, b5, b6, b7, b8, b9, b10, b11, b12] := bk_set h1 1 a1
  have h3 : B13 (((W.setCell ⟨q, 0, none⟩ a0).setCell ⟨q, 1, none⟩ a1).setCell ⟨q, 2, none⟩ a2) q #[a0, a1, a2, b3, b4, b5, b6, b7, b8, b9, b10, b11, b12] := bk_set h2 2 a2
  have h4 : B13 ((((W.setCell ⟨q, 0, none⟩ a0).setCell ⟨q, 1, none⟩ a1).setCell ⟨q, 2, none⟩ a2).setCell ⟨q, 3, none⟩ a3) q #[a0, a1, a2, a3, b4, b5, b6, b7, b8, b9, b10, b11, b12] := bk_set h3 3 a3
  have h5 : B13 (((((W.setCell ⟨q, 0, none⟩ a0).setCell ⟨q, 1, none⟩ a1).setCell ⟨q, 2, none⟩ a2).setCell ⟨q, 3, none⟩ a3).setCell ⟨q, 4, none⟩ a4) q #[a0, a1, a2, a3, a4, b5, b6, b7, b8, b9, b10, b11, b12] := bk_set h4 4 a4
  have h6 : B13 ((((((W.setCell ⟨q, 0, none⟩ a0).setCell ⟨q, 1, none⟩ a1).setCell ⟨q, 2, none⟩ a2).setCell ⟨q, 3, none⟩ a3).setCell ⟨q, 4, none⟩ a4).setCell ⟨q, 5, none⟩ a5) q #[a0, a1, a2, a3, a4, a5, b6, b7, b8, b9, b10, b11, b12] := bk_set h5 5 a5
  have h7 : B13 (((((((W.setCell ⟨q, 0, none⟩ a0).setCell ⟨q, 1, none⟩ a1).setCell ⟨q, 2, none⟩ a2).setCell ⟨q, 3, none⟩ a3).setCell ⟨q, 4, none⟩ a4).setCell ⟨q, 5, none⟩ a5).setCell ⟨q, 6, none⟩ a6) q #[a0, a1, a2, a3, a4, a5, a6, b7, b8, b9, b10, b11, b12] := bk_set h6 6 a6
  have h8 : B13 ((((((((W.setCell ⟨q, 0, none⟩ a0).setCell ⟨q, 1, none⟩ a1).setCell ⟨q, 2, none⟩ a2).setCell ⟨q, 3, none⟩ a3).setCell ⟨q, 4, none⟩ a4).setCell ⟨q, 5, none⟩ a5).setCell ⟨q, 6, none⟩ a6).setCell ⟨q, 7, none⟩ a7) q #[a0, a1, a2, a3, a4, a5, a6, a7, b8, b9, b10, b11, b12] := bk_set h7 7 a7
  have h9 : B13 (((((((((W.setCell ⟨q, 0, none⟩ a0).setCell ⟨q, 1, none⟩ a1).setCell ⟨q, 2, none⟩ a2).setCell ⟨q, 3, none⟩ a3).setCell ⟨q, 4, none⟩ a4).setCell ⟨q, 5, none⟩ a5).setCell ⟨q, 6, none⟩ a6).setCell ⟨q, 7, none⟩ a7).setCell ⟨q, 8, none⟩ a8) q #[a0, a1, a2, a3, a4, a5, a6, a7, a8, b9, b10, b11, b12] := bk_set h8 8 a8
  have h10 : B13 ((((((((((W.setCell ⟨q, 0, none⟩ a0).setCell ⟨q, 1, none⟩ a1).setCell ⟨q, 2, none⟩ a2).setCell ⟨q, 3, none⟩ a3).setCell ⟨q, 4, none⟩ a4).setCell ⟨q, 5, none⟩ a5).setCell ⟨q, 6, none⟩ a6).setCell ⟨q, 7, none⟩ a7).setCell ⟨q, 8, none⟩ a8).setCell ⟨q, 9, none⟩ a9) q #[a0, a1, a2, a3, a4, a5, a6, a7, a8, a9, b10, b11, b12] := bk_set h9 9 a9
  have h11 : B13 (((((((((((W.setCell ⟨q, 0, none⟩ a0).setCell ⟨q, 1, none⟩ a1).setCell ⟨q, 2, none⟩ a2).setCell ⟨q, 3, none⟩ a3).setCell ⟨q, 4, none⟩ a4).setCell ⟨q, 5, none⟩ a5).setCell ⟨q, 6, none⟩ a6).setCell ⟨q, 7, none⟩ a7).setCell ⟨q, 8, none⟩ a8).setCell ⟨q, 9, none⟩ a9).setCell ⟨q, 10, none⟩ a10) q #[a0, a1, a2, a3, a4, a5, a6, a7, a8, a9, a10, b11, b12] := bk_set h10 10 a10
  have h12 : B13 ((((((((((((W.setCell ⟨q, 0, none⟩ a0).setCell ⟨q, 1, none⟩ a1).setCell ⟨q, 2, none⟩ a2).setCell ⟨q, 3, none⟩ a3).setCell ⟨q, 4, none⟩ a4).setCell ⟨q, 5, none⟩ a5).setCell ⟨q, 6, none⟩ a6).setCell ⟨q, 7, none⟩ a7).setCell ⟨q, 8, none⟩ a8).setCell ⟨q, 9, none⟩ a9).setCell ⟨q, 10, none⟩ a10).setCell ⟨q, 11, none⟩ a11) q #[a0, a1, a2, a3, a4, a5, a6, a7, a8, a9, a10, a11, b12] := bk_set h11 11 a11
  have h13 : B13 (((((((((((((W.setCell ⟨q, 0, none⟩ a0).setCell ⟨q, 1, none⟩ a1).setCell ⟨q, 2, none⟩ a2).setCell ⟨q, 3, none⟩ a3).setCell ⟨q, 4, none⟩ a4).setCell ⟨q, 5, none⟩ a5).setCell ⟨q, 6, none⟩ a6).setCell ⟨q, 7, none⟩ a7).setCell ⟨q, 8, none⟩ a8).setCell ⟨q, 9, none⟩ a9).setCell ⟨q, 10, none⟩ a10).setCell ⟨q, 11, none⟩ a11).setCell ⟨q, 12, none⟩ a12) q #[a0, a1, a2, a3, a4, a5, a6, a7, a8, a9, a10, a11, a12] := bk_set h12 12 a12
  exact h13
theorem put13_below {B : Nat} {w W : World} {q : Nat} (b : Below B w W) (hq : B ≤ q) (a0 a1 a2 a3 a4 a5 a6 a7 a8 a9 a10 a11 a12 : Value) : Below B w (put13 W q a0 a1 a2 a3 a4 a5 a6 a7 a8 a9 a10 a11 a12) :=
  (((((((((((((b.setCell hq _).setCell hq _).setCell hq _).setCell hq _).setCell hq _).setCell hq _).setCell hq _).setCell hq _).setCell hq _).setCell hq _).setCell hq _).setCell hq _).setCell hq _)
theorem two13 (w : World) (v : Value) (u e m h s x0 x1 x2 x3 x4 f k : Int) : ∃ W1, W1 = (w.alloc (.cells (rc13 v u e m h s x0 x1 x2 x3 x4 f k) 38)).alloc (.cells (rc13 (.slice none 0 0) 0 0 0 0 0 0 0 0 0 0 0 0) 38) ∧ Below w.heap.size w W1 ∧
    B13 W1 w.heap.size (rc13 v u e m h s x0 x1 x2 x3 x4 f k) ∧ B13 W1 (w.heap.size + 1) (rc13 (.slice none 0 0) 0 0 0 0 0 0 0 0 0 0 0 0) := by
  obtain ⟨W0, hW0⟩ : ∃ W0, W0 = w.alloc (.cells (rc13 v u e m h s x0 x1 x2 x3 x4 f k) 38) := ⟨_, rfl⟩
  have g0 : B13 W0 w.heap.size (rc13 v u e m h s x0 x1 x2 x3 x4 f k) := by rw [hW0]; exact heap_alloc_new w _
  have s0 : W0.heap.size = w.heap.size + 1 := by rw [hW0]; simp
  have b0 : Below w.heap.size w W0 := by rw [hW0]; exact (Below.refl _ w).alloc (Nat.le_refl _) _
  have b1 : Below W0.heap.size W0 (W0.alloc (.cells (rc13 (.slice none 0 0) 0 0 0 0 0 0 0 0 0 0 0 0) 38)) := (Below.refl _ W0).alloc (Nat.le_refl _) _
  have g1 : B13 (W0.alloc (.cells (rc13 (.slice none 0 0) 0 0 0 0 0 0 0 0 0 0 0 0) 38)) W0.heap.size (rc13 (.slice none 0 0) 0 0 0 0 0 0 0 0 0 0 0 0) := heap_alloc_new W0 _
  refine ⟨_, rfl, ?_, ?_, ?_⟩
  · rw [← hW0]; exact b0.trans (b1.mono b0.size)
  · rw [← hW0]; exact g0.keep b1
  · rw [← hW0, ← s0]; exact g1

set_option maxRecDepth 100000 in
set_option maxHeartbeats 4000000 in
theorem one_empty (A : Option Addr) (n c : Nat) (u e m h s x0 x1 x2 x3 x4 f k : Int) (t : ByteArray) (w : World) (ht : t.size ≤ 100000) (hw : wdL t.data.toList = []) :
    Calls Tryz.prog 17 #[.agg (rc13 (.slice A n c) u e m h s x0 x1 x2 x3 x4 f k), .string t] w fun x w' => x = .returned (.tuple #[.agg (rc13 (.slice A n c) u e m h s x0 x1 x2 x3 x4 f k), .int .i64 0]) ∧ Below w.heap.size w w' := by
  obtain ⟨W1, hW1, b1, g1, z1⟩ := two13 w (.slice A n c) u e m h s x0 x1 x2 x3 x4 f k
  have HW := Lib.hid (words_any11 t W1 ht)
  rw [hw] at HW
  have B1 := Lib.hid b1; have G1 := Lib.hid g1; have Z1 := Lib.hid z1
  clear hw b1 g1 z1
  go_enter Tryz.func17, Tryz.ntmps17
  go_upto_region 1 with fail
  rw [← hW1]
  clear hW1
  go_upto_region 3 with (go_at_call 34; refine HW.out.mono ?_; rintro e w1 ⟨v, rfl, hv, hb⟩; obtain ⟨A9, c9, rfl, -, -⟩ := hv.reads; have B2 := Lib.hid (B1.out.trans (hb.mono B1.out.size)); have G2 := Lib.hid (G1.out.keep hb); have Z2 := Lib.hid (Z1.out.keep hb); clear hb hv HW)
  obtain ⟨c0, c1, c2, c3, c4, c5, c6, c7, c8, c9, c10, c11, c12⟩ := G2.out.all
  obtain ⟨d0, d1, d2, d3, d4, d5, d6, d7, d8, d9, d10, d11, d12⟩ := Z2.out.all
  obtain ⟨f0, f1, f2, f3, f4, f5, f6, f7, f8, f9, f10, f11, f12⟩ := Z2.out.frees
  go_wp2
  have r := Z2.out.put (.slice A n c) (.int .i64 u) (.int .i64 e) (.int .i64 m) (.int .i64 h) (.int .i64 s) (.int .u32 x0) (.int .u32 x1) (.int .u32 x2) (.int .u32 x3) (.int .u32 x4) (.int .i64 f) (.int .i64 k)
  have B9 := put13_below (q := w.heap.size + 1) B2.out (Nat.le_succ _) (.slice A n c) (.int .i64 u) (.int .i64 e) (.int .i64 m) (.int .i64 h) (.int .i64 s) (.int .u32 x0) (.int .u32 x1) (.int .u32 x2) (.int .u32 x3) (.int .u32 x4) (.int .i64 f) (.int .i64 k)
  obtain ⟨r0, r1, r2, r3, r4, r5, r6, r7, r8, r9, r10, r11, r12⟩ := r.all
  refine bodyPost_ret (v := .tuple #[.agg (rc13 (.slice A n c) u e m h s x0 x1 x2 x3 x4 f k), .int .i64 0]) (by simp [results, Tryz.results17, go_sem, r0, r1, r2, r3, r4, r5, r6, r7, r8, r9, r10, r11, r12]) rfl ⟨rfl, B9⟩

end Go.Proofs.YtdonicaiimeleaaGreatDoor
