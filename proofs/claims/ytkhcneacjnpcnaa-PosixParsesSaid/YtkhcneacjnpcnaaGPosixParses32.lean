/- Merged: PosL. -/
import Derived.Test.YtkhcneacjnpcnaaGPosixParses21
import Derived.Test.YtkhcneacjnpcnaaGPosixParses29
namespace Go.Proofs.Ytkhcneacjnpcnaa
open Go.RowKit
set_option linter.unusedVariables false
set_option linter.unusedSimpArgs false

theorem see_block14 {W : World} {p : Nat} {T : TypeId} {a0 a1 a2 a3 a4 a5 a6 a7 a8 a9 a10 a11 a12 a13 : Value} (h : W.heap[p]? = some (.cells #[a0, a1, a2, a3, a4, a5, a6, a7, a8, a9, a10, a11, a12, a13] T (0, 0))) : W.cell? ⟨p, 0, none⟩ = some a0 ∧ W.cell? ⟨p, 1, none⟩ = some a1 ∧ W.cell? ⟨p, 2, none⟩ = some a2 ∧ W.cell? ⟨p, 3, none⟩ = some a3 ∧ W.cell? ⟨p, 4, none⟩ = some a4 ∧ W.cell? ⟨p, 5, none⟩ = some a5 ∧ W.cell? ⟨p, 6, none⟩ = some a6 ∧ W.cell? ⟨p, 7, none⟩ = some a7 ∧ W.cell? ⟨p, 8, none⟩ = some a8 ∧ W.cell? ⟨p, 9, none⟩ = some a9 ∧ W.cell? ⟨p, 10, none⟩ = some a10 ∧ W.cell? ⟨p, 11, none⟩ = some a11 ∧ W.cell? ⟨p, 12, none⟩ = some a12 ∧ W.cell? ⟨p, 13, none⟩ = some a13 :=
  ⟨bk_cell h 0, bk_cell h 1, bk_cell h 2, bk_cell h 3, bk_cell h 4, bk_cell h 5, bk_cell h 6, bk_cell h 7, bk_cell h 8, bk_cell h 9, bk_cell h 10, bk_cell h 11, bk_cell h 12, bk_cell h 13⟩
theorem free_block14 {W : World} {p : Nat} {T : TypeId} {a0 a1 a2 a3 a4 a5 a6 a7 a8 a9 a10 a11 a12 a13 : Value} (h : W.heap[p]? = some (.cells #[a0, a1, a2, a3, a4, a5, a6, a7, a8, a9, a10, a11, a12, a13] T (0, 0))) : W.frozen? ⟨p, 0, none⟩ = false ∧ W.frozen? ⟨p, 1, none⟩ = false ∧ W.frozen? ⟨p, 2, none⟩ = false ∧ W.frozen? ⟨p, 3, none⟩ = false ∧ W.frozen? ⟨p, 4, none⟩ = false ∧ W.frozen? ⟨p, 5, none⟩ = false ∧ W.frozen? ⟨p, 6, none⟩ = false ∧ W.frozen? ⟨p, 7, none⟩ = false ∧ W.frozen? ⟨p, 8, none⟩ = false ∧ W.frozen? ⟨p, 9, none⟩ = false ∧ W.frozen? ⟨p, 10, none⟩ = false ∧ W.frozen? ⟨p, 11, none⟩ = false ∧ W.frozen? ⟨p, 12, none⟩ = false ∧ W.frozen? ⟨p, 13, none⟩ = false :=
  ⟨bk_free h 0, bk_free h 1, bk_free h 2, bk_free h 3, bk_free h 4, bk_free h 5, bk_free h 6, bk_free h 7, bk_free h 8, bk_free h 9, bk_free h 10, bk_free h 11, bk_free h 12, bk_free h 13⟩
theorem set_block14 {B : Nat} {w W : World} {p : Nat} {T : TypeId} {b0 b1 b2 b3 b4 b5 b6 b7 b8 b9 b10 b11 b12 b13 : Value} (h : W.heap[p]? = some (.cells #[b0, b1, b2, b3, b4, b5, b6, b7, b8, b9, b10, b11, b12, b13] T (0, 0))) (hb : Below B w W) (hp : B ≤ p) (a0 a1 a2 a3 a4 a5 a6 a7 a8 a9 a10 a11 a12 a13 : Value) :
    Below B w (put17_14 W p a0 a1 a2 a3 a4 a5 a6 a7 a8 a9 a10 a11 a12 a13) ∧ (put17_14 W p a0 a1 a2 a3 a4 a5 a6 a7 a8 a9 a10 a11 a12 a13).heap[p]? = some (.cells #[a0, a1, a2, a3, a4, a5, a6, a7, a8, a9, a10, a11, a12, a13] T (0, 0)) ∧ ∀ q o, q ≠ p → W.heap[q]? = o → (put17_14 W p a0 a1 a2 a3 a4 a5 a6 a7 a8 a9 a10 a11 a12 a13).heap[q]? = o := by
  have h0 : (W.setCell ⟨p, 0, none⟩ a0).heap[p]? = some (.cells #[a0, b1, b2, b3, b4, b5, b6, b7, b8, b9, b10, b11, b12, b13] T (0, 0)) := bk_set h 0 a0
  have g0 : Below B w (W.setCell ⟨p, 0, none⟩ a0) := Below.setCell hb hp a0
  have h1 : ((W.setCell ⟨p, 0, none⟩ a0).setCell ⟨p, 1, none⟩ a1).heap[p]? = some (.cells #[a0, a1, b2, b3, b4, b5, b6, b7, b8, b9, b10, b11, b12, b13] T (0, 0)) := bk_set h0 1 a1
  have g1 : Below B w ((W.setCell ⟨p, 0, none⟩ a0).setCell ⟨p, 1, none⟩ a1) := Below.setCell g0 hp a1
  have h2 : (((W.setCell ⟨p, 0, none⟩ a0).setCell ⟨p, 1, none⟩ a1).setCell ⟨p, 2, none⟩ a2).heap[p]? = some (.cells #[a0, a1, a2, b3, b4, b5, b6, b7, b8, b9, b10, b11, b12, b13] T (0, 0)) := bk_set h1 2 a2
  have g2 : Below B w (((W.setCell ⟨p, 0, none⟩ a0).setCell ⟨p, 1, none⟩ a1).setCell ⟨p, 2, none⟩ a2) := Below.setCell g1 hp a2
  have h3 : ((((W.setCell ⟨p, 0, none⟩ a0).setCell ⟨p, 1, none⟩ a1).setCell ⟨p, 2, none⟩ a2).setCell ⟨p, 3, none⟩ a3).heap[p]? = some (.cells #[a0, a1, a2, a3, b4, b5, b6, b7, b8, b9, b10, b11, b12, b13] T (0, 0)) := bk_set h2 3 a3
  have g3 : Below B w ((((W.setCell ⟨p, 0, none⟩ a0).setCell ⟨p, 1, none⟩ a1).setCell ⟨p, 2, none⟩ a2).setCell ⟨p, 3, none⟩ a3) := Below.setCell g2 hp a3
  have h4 : (((((W.setCell ⟨p, 0, none⟩ a0).setCell ⟨p, 1, none⟩ a1).setCell ⟨p, 2, none⟩ a2).setCell ⟨p, 3, none⟩ a3).setCell ⟨p, 4, none⟩ a4).heap[p]? = some (.cells #[a0, a1, a2, a3, a4, b5, b6, b7, b8, b9, b10, b11, b12, b13] T (0, 0)) := bk_set h3 4 a4
  have g4 : Below B w (((((W.setCell ⟨p, 0, none⟩ a0).setCell ⟨p, 1, none⟩ a1).setCell ⟨p, 2, none⟩ a2).setCell ⟨p, 3, none⟩ a3).setCell ⟨p, 4, none⟩ a4) := Below.setCell g3 hp a4
  have h5 : ((((((W.setCell ⟨p, 0, none⟩ a0).setCell ⟨p, 1, none⟩ a1).setCell ⟨p, 2, none⟩ a2).setCell ⟨p, 3, none⟩ a3).setCell ⟨p, 4, none⟩ a4).setCell ⟨p, 5, none⟩ a5).heap[p]? = some (.cells #[a0, a1, a2, a3, a4, a5, b6, b7, b8, b9, b10, b11, b12, b13] T (0, 0)) := bk_set h4 5 a5
  have g5 : Below B w ((((((W.setCell ⟨p, 0, none⟩ a0).setCell ⟨p, 1, none⟩ a1).setCell ⟨p, 2, none⟩ a2).setCell ⟨p, 3, none⟩ a3).setCell ⟨p, 4, none⟩ a4).setCell ⟨p, 5, none⟩ a5) := Below.setCell g4 hp a5
  have h6 : (((((((W.setCell ⟨p, 0, none⟩ a0).setCell ⟨p, 1, none⟩ a1).setCell ⟨p, 2, none⟩ a2).setCell ⟨p, 3, none⟩ a3).setCell ⟨p, 4, none⟩ a4).setCell ⟨p, 5, none⟩ a5).setCell ⟨p, 6, none⟩ a6).heap[p]? = some (.cells #[a0, a1, a2, a3, a4, a5, a6, b7, b8, b9, b10, b11, b12, b13] T (0, 0)) := bk_set h5 6 a6
  have g6 : Below B w (((((((W.setCell ⟨p, 0, none⟩ a0).setCell ⟨p, 1, none⟩ a1).setCell ⟨p, 2, none⟩ a2).setCell ⟨p, 3, none⟩ a3).setCell ⟨p, 4, none⟩ a4).setCell ⟨p, 5, none⟩ a5).setCell ⟨p, 6, none⟩ a6) := Below.setCell g5 hp a6
  have h7 : ((((((((W.setCell ⟨p, 0, none⟩ a0).setCell ⟨p, 1, none⟩ a1).setCell ⟨p, 2, none⟩ a2).setCell ⟨p, 3, none⟩ a3).setCell ⟨p, 4, none⟩ a4).setCell ⟨p, 5, none⟩ a5).setCell ⟨p, 6, none⟩ a6).setCell ⟨p, 7, none⟩ a7).heap[p]? = some (.cells #[a0, a1, a2, a3, a4, a5, a6, a7, b8, b9, b10, b11, b12, b13] T (0, 0)) := bk_set h6 7 a7
  have g7 : Below B w ((((((((W.setCell ⟨p, 0, none⟩ a0).setCell ⟨p, 1, none⟩ a1).setCell ⟨p, 2, none⟩ a2).setCell ⟨p, 3, none⟩ a3).setCell ⟨p, 4, none⟩ a4).setCell ⟨p, 5, none⟩ a5).setCell ⟨p, 6, none⟩ a6).setCell ⟨p, 7, none⟩ a7) := Below.setCell g6 hp a7
  have h8 : (((((((((W.setCell ⟨p, 0, none⟩ a0).setCell ⟨p, 1, none⟩ a1).setCell ⟨p, 2, none⟩ a2).setCell ⟨p, 3, none⟩ a3).setCell ⟨p, 4, none⟩ a4).setCell ⟨p, 5, none⟩ a5).setCell ⟨p, 6, none⟩ a6).setCell ⟨p, 7, none⟩ a7).setCell ⟨p, 8, none⟩ a8).heap[p]? = some (.cells #[a0, a1, a2, a3, a4, a5, a6, a7, a8, b9, b10, b11, b12, b13] T (0, 0)) := bk_set h7 8 a8
  have g8 : Below B w (((((((((W.setCell ⟨p, 0, none⟩ a0).setCell ⟨p, 1, none⟩ a1).setCell ⟨p, 2, none⟩ a2).setCell ⟨p, 3, none⟩ a3).setCell ⟨p, 4, none⟩ a4).setCell ⟨p, 5, none⟩ a5).setCell ⟨p, 6, none⟩ a6).setCell ⟨p, 7, none⟩ a7).setCell ⟨p, 8, none⟩ a8) := Below.setCell g7 hp a8
  have h9 : ((((((((((W.setCell ⟨p, 0, none⟩ a0).setCell ⟨p, 1, none⟩ a1).setCell ⟨p, 2, none⟩ a2).setCell ⟨p, 3, none⟩ a3).setCell ⟨p, 4, none⟩ a4).setCell ⟨p, 5, none⟩ a5).setCell ⟨p, 6, none⟩ a6).setCell ⟨p, 7, none⟩ a7).setCell ⟨p, 8, none⟩ a8).setCell ⟨p, 9, none⟩ a9).heap[p]? = some (.cells #[a0, a1, a2, a3, a4, a5, a6, a7, a8, a9, b10, b11, b12, b13] T (0, 0)) := bk_set h8 9 a9
  have g9 : Below B w ((((((((((W.setCell ⟨p, 0, none⟩ a0).setCell ⟨p, 1, none⟩ a1).setCell ⟨p, 2, none⟩ a2).setCell ⟨p, 3, none⟩ a3).setCell ⟨p, 4, none⟩ a4).setCell ⟨p, 5, none⟩ a5).setCell ⟨p, 6, none⟩ a6).setCell ⟨p, 7, none⟩ a7).setCell ⟨p, 8, none⟩ a8).setCell ⟨p, 9, none⟩ a9) := Below.setCell g8 hp a9
  have h10 : (((((((((((W.setCell ⟨p, 0, none⟩ a0).setCell ⟨p, 1, none⟩ a1).setCell ⟨p, 2, none⟩ a2).setCell ⟨p, 3, none⟩ a3).setCell ⟨p, 4, none⟩ a4).setCell ⟨p, 5, none⟩ a5).setCell ⟨p, 6, none⟩ a6).setCell ⟨p, 7, none⟩ a7).setCell ⟨p, 8, none⟩ a8).setCell ⟨p, 9, none⟩ a9).setCell ⟨p, 10, none⟩ a10).heap[p]? = some (.cells #[a0, a1, a2, a3, a4, a5, a6, a7, a8, a9, a10, b11, b12, b13] T (0, 0)) := bk_set h9 10 a10
  have g10 : Below B w (((((((((((W.setCell ⟨p, 0, none⟩ a0).setCell ⟨p, 1, none⟩ a1).setCell ⟨p, 2, none⟩ a2).setCell ⟨p, 3, none⟩ a3).setCell ⟨p, 4, none⟩ a4).setCell ⟨p, 5, none⟩ a5).setCell ⟨p, 6, none⟩ a6).setCell ⟨p, 7, none⟩ a7).setCell ⟨p, 8, none⟩ a8).setCell ⟨p, 9, none⟩ a9).setCell ⟨p, 10, none⟩ a10) := Below.setCell g9 hp a10
  have h11 : ((((((((((((W.setCell ⟨p, 0, none⟩ a0).setCell ⟨p, 1, none⟩ a1).setCell ⟨p, 2, none⟩ a2).setCell ⟨p, 3, none⟩ a3).setCell ⟨p, 4, none⟩ a4).setCell ⟨p, 5, none⟩ a5).setCell ⟨p, 6, none⟩ a6).setCell ⟨p, 7, none⟩ a7).setCell ⟨p, 8, none⟩ a8).setCell ⟨p, 9, none⟩ a9).setCell ⟨p, 10, none⟩ a10).setCell ⟨p, 11, none⟩ a11).heap[p]? = some (.cells #[a0, a1, a2, a3, a4, a5, a6, a7, a8, a9, a10, a11, b12, b13] T (0, 0)) := bk_set h10 11 a11
  have g11 : Below B w ((((((((((((W.setCell ⟨p, 0, none⟩ a0).setCell ⟨p, 1, none⟩ a1).setCell ⟨p, 2, none⟩ a2).setCell ⟨p, 3, none⟩ a3).setCell ⟨p, 4, none⟩ a4).setCell ⟨p, 5, none⟩ a5).setCell ⟨p, 6, none⟩ a6).setCell ⟨p, 7, none⟩ a7).setCell ⟨p, 8, none⟩ a8).setCell ⟨p, 9, none⟩ a9).setCell ⟨p, 10, none⟩ a10).setCell ⟨p, 11, none⟩ a11) := Below.setCell g10 hp a11
  have h12 : (((((((((((((W.setCell ⟨p, 0, none⟩ a0).setCell ⟨p, 1, none⟩ a1).setCell ⟨p, 2, none⟩ a2).setCell ⟨p, 3, none⟩ a3).setCell ⟨p, 4, none⟩ a4).setCell ⟨p, 5, none⟩ a5).setCell ⟨p, 6, none⟩ a6).setCell ⟨p, 7, none⟩ a7).setCell ⟨p, 8, none⟩ a8).setCell ⟨p, 9, none⟩ a9).setCell ⟨p, 10, none⟩ a10).setCell ⟨p, 11, none⟩ a11).setCell ⟨p, 12, none⟩ a12).heap[p]? = some (.cells #[a0, a1, a2, a3, a4, a5, a6, a7, a8, a9, a10, a11, a12, b13] T (0, 0)) := bk_set h11 12 a12
  have g12 : Below B w (((((((((((((W.setCell ⟨p, 0, none⟩ a0).setCell ⟨p, 1, none⟩ a1).setCell ⟨p, 2, none⟩ a2).setCell ⟨p, 3, none⟩ a3).setCell ⟨p, 4, none⟩ a4).setCell ⟨p, 5, none⟩ a5).setCell ⟨p, 6, none⟩ a6).setCell ⟨p, 7, none⟩ a7).setCell ⟨p, 8, none⟩ a8).setCell ⟨p, 9, none⟩ a9).setCell ⟨p, 10, none⟩ a10).setCell ⟨p, 11, none⟩ a11).setCell ⟨p, 12, none⟩ a12) := Below.setCell g11 hp a12
  have h13 : ((((((((((((((W.setCell ⟨p, 0, none⟩ a0).setCell ⟨p, 1, none⟩ a1).setCell ⟨p, 2, none⟩ a2).setCell ⟨p, 3, none⟩ a3).setCell ⟨p, 4, none⟩ a4).setCell ⟨p, 5, none⟩ a5).setCell ⟨p, 6, none⟩ a6).setCell ⟨p, 7, none⟩ a7).setCell ⟨p, 8, none⟩ a8).setCell ⟨p, 9, none⟩ a9).setCell ⟨p, 10, none⟩ a10).setCell ⟨p, 11, none⟩ a11).setCell ⟨p, 12, none⟩ a12).setCell ⟨p, 13, none⟩ a13).heap[p]? = some (.cells #[a0, a1, a2, a3, a4, a5, a6, a7, a8, a9, a10, a11, a12, a13] T (0, 0)) := bk_set h12 13 a13
  have g13 : Below B w ((((((((((((((W.setCell ⟨p, 0, none⟩ a0).setCell ⟨p, 1, none⟩ a1).setCell ⟨p, 2, none⟩ a2).setCell ⟨p, 3, none⟩ a3).setCell ⟨p, 4, none⟩ a4).setCell ⟨p, 5, none⟩ a5).setCell ⟨p, 6, none⟩ a6).setCell ⟨p, 7, none⟩ a7).setCell ⟨p, 8, none⟩ a8).setCell ⟨p, 9, none⟩ a9).setCell ⟨p, 10, none⟩ a10).setCell ⟨p, 11, none⟩ a11).setCell ⟨p, 12, none⟩ a12).setCell ⟨p, 13, none⟩ a13) := Below.setCell g12 hp a13
  exact ⟨g13, h13, fun q o hq ho => blk_set (blk_set (blk_set (blk_set (blk_set (blk_set (blk_set (blk_set (blk_set (blk_set (blk_set (blk_set (blk_set (blk_set ho hq _ _) hq _ _) hq _ _) hq _ _) hq _ _) hq _ _) hq _ _) hq _ _) hq _ _) hq _ _) hq _ _) hq _ _) hq _ _) hq _ _⟩
set_option maxHeartbeats 2000000 in
theorem eq_dplan (N S : ByteArray) (o a b0 b1 b2 b3 b4 e0 e1 e2 e3 e4 : Int) (w : World) : (Op.equalIn 10000 33 (.agg #[.string N, .string S, .int .i64 o, .int .i64 a, .int .i64 b0, .int .i64 b1, .int .i64 b2, .int .i64 b3, .int .i64 b4, .int .i64 e0, .int .i64 e1, .int .i64 e2, .int .i64 e3, .int .i64 e4]) (.agg #[.string N, .string S, .int .i64 o, .int .i64 a, .int .i64 b0, .int .i64 b1, .int .i64 b2, .int .i64 b3, .int .i64 b4, .int .i64 e0, .int .i64 e1, .int .i64 e2, .int .i64 e3, .int .i64 e4])).run Try.prog w = .ok true w := by
  have u3 := Try.underlying3
  have a3 := Try.isAgg3
  have z3 := Try.sizeOf3
  have u4 := Try.underlying9
  have a4 := Try.isAgg9
  have z4 := Try.sizeOf9
  have u5 := Try.underlying31
  have a5 := Try.isAgg31
  have z5 := Try.sizeOf31
  rw [show (10000 : Nat) = 9999 + 1 from rfl, Op.equalIn]
  simp only [Sem.run_bind, run_underlying Try.underlying33, Result.andThen_ok]
  go_simp
set_option maxRecDepth 100000 in
set_option maxHeartbeats 8000000 in
theorem pdoc_any (a : Pl) (w : World) :
    Calls Try.prog 7 #[.agg a.cells] w fun x w' => x = .returned (.agg a.cells) ∧ Below w.heap.size w w' := by
  have HB : Hid (∀ w, Calls Try.prog 17 #[.agg #[.int .i64 a.B.K, .int .i64 a.B.M, .int .i64 a.B.W, .int .i64 a.B.D, .int .i64 a.B.T]] w fun x w' => x = .returned (.agg #[.int .i64 a.B.K, .int .i64 a.B.M, .int .i64 a.B.W, .int .i64 a.B.D, .int .i64 a.B.T]) ∧ Below w.heap.size w w') := Lib.hid (fun w => document_any a.B w)
  have HE : Hid (∀ w, Calls Try.prog 17 #[.agg #[.int .i64 a.E.K, .int .i64 a.E.M, .int .i64 a.E.W, .int .i64 a.E.D, .int .i64 a.E.T]] w fun x w' => x = .returned (.agg #[.int .i64 a.E.K, .int .i64 a.E.M, .int .i64 a.E.W, .int .i64 a.E.D, .int .i64 a.E.T]) ∧ Below w.heap.size w w') := Lib.hid (fun w => document_any a.E w)
  obtain ⟨W0, hW0⟩ : ∃ W0, W0 = w.alloc (.cells a.cells 26) := ⟨_, rfl⟩
  have b0 : Below w.heap.size w W0 := by rw [hW0]; exact bel16 w _
  have L0 : Plk W0 w.heap.size a := by rw [hW0]; exact plk_new _ _
  have z0 : W0.heap.size = w.heap.size + 1 := by rw [hW0]; simp
  have p1 := L0.keep (bel16 W0 (.cells (#[.string ⟨#[]⟩, .string ⟨#[]⟩, .int .i64 0, .int .i64 0, .int .i64 0, .int .i64 0, .int .i64 0, .int .i64 0, .int .i64 0, .int .i64 0, .int .i64 0, .int .i64 0, .int .i64 0, .int .i64 0] : Array Value) 33))
  have b1 := b0.alloc b0.size (.cells (#[.string ⟨#[]⟩, .string ⟨#[]⟩, .int .i64 0, .int .i64 0, .int .i64 0, .int .i64 0, .int .i64 0, .int .i64 0, .int .i64 0, .int .i64 0, .int .i64 0, .int .i64 0, .int .i64 0, .int .i64 0] : Array Value) 33)
  have n1 : (W0.alloc (.cells (#[.string ⟨#[]⟩, .string ⟨#[]⟩, .int .i64 0, .int .i64 0, .int .i64 0, .int .i64 0, .int .i64 0, .int .i64 0, .int .i64 0, .int .i64 0, .int .i64 0, .int .i64 0, .int .i64 0, .int .i64 0] : Array Value) 33)).heap[W0.heap.size]? = some (.cells (#[.string ⟨#[]⟩, .string ⟨#[]⟩, .int .i64 0, .int .i64 0, .int .i64 0, .int .i64 0, .int .i64 0, .int .i64 0, .int .i64 0, .int .i64 0, .int .i64 0, .int .i64 0, .int .i64 0, .int .i64 0] : Array Value) 33 (0, 0)) := heap_alloc_new W0 _
  rw [z0] at n1
  obtain ⟨q, hq⟩ : ∃ q, q = w.heap.size + 1 := ⟨_, rfl⟩
  obtain ⟨W1, hW1⟩ : ∃ W1, W1 = W0.alloc (.cells (#[.string ⟨#[]⟩, .string ⟨#[]⟩, .int .i64 0, .int .i64 0, .int .i64 0, .int .i64 0, .int .i64 0, .int .i64 0, .int .i64 0, .int .i64 0, .int .i64 0, .int .i64 0, .int .i64 0, .int .i64 0] : Array Value) 33) := ⟨_, rfl⟩
  rw [← hW1] at p1 b1 n1
  rw [← hq] at n1
  have P1 := Lib.hid p1; have B1 := Lib.hid b1; have N1 := Lib.hid n1; have HQ := Lib.hid hq
  have HH : Hid (∀ W, Kq16 W1 W → (W.cell? ⟨w.heap.size, 0, none⟩ = some (.string ⟨a.N.toArray⟩) ∧ W.cell? ⟨w.heap.size, 1, none⟩ = some (.string ⟨a.S.toArray⟩) ∧ W.cell? ⟨w.heap.size, 2, none⟩ = some (.int .i64 a.O) ∧ W.cell? ⟨w.heap.size, 3, none⟩ = some (.int .i64 a.A) ∧ W.cell? ⟨w.heap.size, 4, none⟩ = some (.int .i64 a.B.K) ∧ W.cell? ⟨w.heap.size, 5, none⟩ = some (.int .i64 a.B.M) ∧ W.cell? ⟨w.heap.size, 6, none⟩ = some (.int .i64 a.B.W) ∧ W.cell? ⟨w.heap.size, 7, none⟩ = some (.int .i64 a.B.D) ∧ W.cell? ⟨w.heap.size, 8, none⟩ = some (.int .i64 a.B.T) ∧ W.cell? ⟨w.heap.size, 9, none⟩ = some (.int .i64 a.E.K) ∧ W.cell? ⟨w.heap.size, 10, none⟩ = some (.int .i64 a.E.M) ∧ W.cell? ⟨w.heap.size, 11, none⟩ = some (.int .i64 a.E.W) ∧ W.cell? ⟨w.heap.size, 12, none⟩ = some (.int .i64 a.E.D) ∧ W.cell? ⟨w.heap.size, 13, none⟩ = some (.int .i64 a.E.T)) ∧ Below w.heap.size w W) := Lib.hid (fun W k => ⟨(P1.out.keep k.bel).all, B1.out.trans (k.bel.mono B1.out.size)⟩)
  have hKD : Kq16 W1 W1.drew := ⟨(Below.refl _ W1).drew⟩
  clear L0 b0 z0 p1 b1 n1
  go_enter Try.func7, Try.ntmps7
  go_upto_region 1 with fail
  rw [← hW0, ← hq, ← hW1]
  clear hW0 hq hW1
  refine wp_region_held_drew (S := (fun W => (W.cell? ⟨w.heap.size, 0, none⟩ = some (.string ⟨a.N.toArray⟩) ∧ W.cell? ⟨w.heap.size, 1, none⟩ = some (.string ⟨a.S.toArray⟩) ∧ W.cell? ⟨w.heap.size, 2, none⟩ = some (.int .i64 a.O) ∧ W.cell? ⟨w.heap.size, 3, none⟩ = some (.int .i64 a.A) ∧ W.cell? ⟨w.heap.size, 4, none⟩ = some (.int .i64 a.B.K) ∧ W.cell? ⟨w.heap.size, 5, none⟩ = some (.int .i64 a.B.M) ∧ W.cell? ⟨w.heap.size, 6, none⟩ = some (.int .i64 a.B.W) ∧ W.cell? ⟨w.heap.size, 7, none⟩ = some (.int .i64 a.B.D) ∧ W.cell? ⟨w.heap.size, 8, none⟩ = some (.int .i64 a.B.T) ∧ W.cell? ⟨w.heap.size, 9, none⟩ = some (.int .i64 a.E.K) ∧ W.cell? ⟨w.heap.size, 10, none⟩ = some (.int .i64 a.E.M) ∧ W.cell? ⟨w.heap.size, 11, none⟩ = some (.int .i64 a.E.W) ∧ W.cell? ⟨w.heap.size, 12, none⟩ = some (.int .i64 a.E.D) ∧ W.cell? ⟨w.heap.size, 13, none⟩ = some (.int .i64 a.E.T)) ∧ Below w.heap.size w W)) (by kernel_rfl) (HH.out _ hKD) (fun hHeld => ?_)
  refine wpAnyH_take (i := 0) (v := .pointer (some ⟨w.heap.size, 0, none⟩)) rfl (by kernel_rfl) (by kernel_rfl) (by kernel_rfl) (fun _ _ _ h => h) (Or.inl ⟨by rfl, fun w hSw => by go_simp⟩) hHeld ?_
  try simp only [Act.put, List.setIfInBounds_toArray, List.set_cons_zero, List.set_cons_succ, List.getElem_toArray, List.getElem_cons_succ, List.getElem_cons_zero]
  refine wpAnyH_take (i := 1) (v := .string ⟨a.N.toArray⟩) rfl (by kernel_rfl) (by kernel_rfl) (by kernel_rfl) (fun _ _ _ h => h) (Or.inl ⟨by rfl, fun w hSw => by obtain ⟨⟨s0, s1, s2, s3, s4, s5, s6, s7, s8, s9, s10, s11, s12, s13⟩, -⟩ := hSw; go_simp⟩) hHeld ?_
  try simp only [Act.put, List.setIfInBounds_toArray, List.set_cons_zero, List.set_cons_succ, List.getElem_toArray, List.getElem_cons_succ, List.getElem_cons_zero]
  refine wpAnyH_take (i := 2) (v := .pointer (some ⟨w.heap.size, 1, none⟩)) rfl (by kernel_rfl) (by kernel_rfl) (by kernel_rfl) (fun _ _ _ h => h) (Or.inl ⟨by rfl, fun w hSw => by go_simp⟩) hHeld ?_
  try simp only [Act.put, List.setIfInBounds_toArray, List.set_cons_zero, List.set_cons_succ, List.getElem_toArray, List.getElem_cons_succ, List.getElem_cons_zero]
  refine wpAnyH_take (i := 3) (v := .string ⟨a.S.toArray⟩) rfl (by kernel_rfl) (by kernel_rfl) (by kernel_rfl) (fun _ _ _ h => h) (Or.inl ⟨by rfl, fun w hSw => by obtain ⟨⟨s0, s1, s2, s3, s4, s5, s6, s7, s8, s9, s10, s11, s12, s13⟩, -⟩ := hSw; go_simp⟩) hHeld ?_
  try simp only [Act.put, List.setIfInBounds_toArray, List.set_cons_zero, List.set_cons_succ, List.getElem_toArray, List.getElem_cons_succ, List.getElem_cons_zero]
  refine wpAnyH_take (i := 4) (v := .pointer (some ⟨w.heap.size, 2, none⟩)) rfl (by kernel_rfl) (by kernel_rfl) (by kernel_rfl) (fun _ _ _ h => h) (Or.inl ⟨by rfl, fun w hSw => by go_simp⟩) hHeld ?_
  try simp only [Act.put, List.setIfInBounds_toArray, List.set_cons_zero, List.set_cons_succ, List.getElem_toArray, List.getElem_cons_succ, List.getElem_cons_zero]
  refine wpAnyH_take (i := 5) (v := .int .i64 a.O) rfl (by kernel_rfl) (by kernel_rfl) (by kernel_rfl) (fun _ _ _ h => h) (Or.inl ⟨by rfl, fun w hSw => by obtain ⟨⟨s0, s1, s2, s3, s4, s5, s6, s7, s8, s9, s10, s11, s12, s13⟩, -⟩ := hSw; go_simp⟩) hHeld ?_
  try simp only [Act.put, List.setIfInBounds_toArray, List.set_cons_zero, List.set_cons_succ, List.getElem_toArray, List.getElem_cons_succ, List.getElem_cons_zero]
  refine wpAnyH_take (i := 6) (v := .pointer (some ⟨w.heap.size, 3, none⟩)) rfl (by kernel_rfl) (by kernel_rfl) (by kernel_rfl) (fun _ _ _ h => h) (Or.inl ⟨by rfl, fun w hSw => by go_simp⟩) hHeld ?_
  try simp only [Act.put, List.setIfInBounds_toArray, List.set_cons_zero, List.set_cons_succ, List.getElem_toArray, List.getElem_cons_succ, List.getElem_cons_zero]
  refine wpAnyH_take (i := 7) (v := .int .i64 a.A) rfl (by kernel_rfl) (by kernel_rfl) (by kernel_rfl) (fun _ _ _ h => h) (Or.inl ⟨by rfl, fun w hSw => by obtain ⟨⟨s0, s1, s2, s3, s4, s5, s6, s7, s8, s9, s10, s11, s12, s13⟩, -⟩ := hSw; go_simp⟩) hHeld ?_
  try simp only [Act.put, List.setIfInBounds_toArray, List.set_cons_zero, List.set_cons_succ, List.getElem_toArray, List.getElem_cons_succ, List.getElem_cons_zero]
  refine wpAnyH_take (i := 8) (v := .pointer (some ⟨w.heap.size, 4, none⟩)) rfl (by kernel_rfl) (by kernel_rfl) (by kernel_rfl) (fun _ _ _ h => h) (Or.inl ⟨by rfl, fun w hSw => by go_simp⟩) hHeld ?_
  try simp only [Act.put, List.setIfInBounds_toArray, List.set_cons_zero, List.set_cons_succ, List.getElem_toArray, List.getElem_cons_succ, List.getElem_cons_zero]
  refine wpAnyH_take (i := 9) (v := .agg #[.int .i64 a.B.K, .int .i64 a.B.M, .int .i64 a.B.W, .int .i64 a.B.D, .int .i64 a.B.T]) rfl (by kernel_rfl) (by kernel_rfl) (by kernel_rfl) (fun _ _ _ h => h) (Or.inl ⟨by rfl, fun w hSw => by obtain ⟨⟨s0, s1, s2, s3, s4, s5, s6, s7, s8, s9, s10, s11, s12, s13⟩, -⟩ := hSw; go_simp⟩) hHeld ?_
  try simp only [Act.put, List.setIfInBounds_toArray, List.set_cons_zero, List.set_cons_succ, List.getElem_toArray, List.getElem_cons_succ, List.getElem_cons_zero]
  refine wpAnyH_take (i := 11) (v := .pointer (some ⟨w.heap.size, 9, none⟩)) rfl (by kernel_rfl) (by kernel_rfl) (by kernel_rfl) (fun _ _ _ h => h) (Or.inl ⟨by rfl, fun w hSw => by go_simp⟩) hHeld ?_
  try simp only [Act.put, List.setIfInBounds_toArray, List.set_cons_zero, List.set_cons_succ, List.getElem_toArray, List.getElem_cons_succ, List.getElem_cons_zero]
  refine wpAnyH_take (i := 12) (v := .agg #[.int .i64 a.E.K, .int .i64 a.E.M, .int .i64 a.E.W, .int .i64 a.E.D, .int .i64 a.E.T]) rfl (by kernel_rfl) (by kernel_rfl) (by kernel_rfl) (fun _ _ _ h => h) (Or.inl ⟨by rfl, fun w hSw => by obtain ⟨⟨s0, s1, s2, s3, s4, s5, s6, s7, s8, s9, s10, s11, s12, s13⟩, -⟩ := hSw; go_simp⟩) hHeld ?_
  try simp only [Act.put, List.setIfInBounds_toArray, List.set_cons_zero, List.set_cons_succ, List.getElem_toArray, List.getElem_cons_succ, List.getElem_cons_zero]
  refine wpAnyH_ready (rs := [10]) (by kernel_rfl) (by simp) ?_
  refine AllReadyH.cons rfl (fun K hK => ?_) AllReadyH.nil
  have HK := Lib.hid hK; clear hK
  go_simp
  (go_at_call 17; refine (HB.out _).mono ?_; rintro er w8 ⟨rfl, hq⟩; have kw8 : Kq16 W1 w8 := Kq16.step hKD hq; clear hq)
  refine HK.out _ _ (HH.out _ kw8) (fun hHeld => ?_)
  clear HK K
  try simp only [Act.put, List.setIfInBounds_toArray, List.set_cons_zero, List.set_cons_succ, List.getElem_toArray, List.getElem_cons_succ, List.getElem_cons_zero]
  refine wpAnyH_ready (rs := [13]) (by kernel_rfl) (by simp) ?_
  refine AllReadyH.cons rfl (fun K hK => ?_) AllReadyH.nil
  have HK := Lib.hid hK; clear hK
  go_simp
  (go_at_call 17; refine (HE.out _).mono ?_; rintro er w9 ⟨rfl, hq⟩; have kw9 : Kq16 W1 w9 := Kq16.step kw8 hq; clear hq)
  refine HK.out _ _ (HH.out _ kw9) (fun hHeld => ?_)
  clear HK K
  try simp only [Act.put, List.setIfInBounds_toArray, List.set_cons_zero, List.set_cons_succ, List.getElem_toArray, List.getElem_cons_succ, List.getElem_cons_zero]
  refine wpAnyH_take (i := 14) (v := .agg #[.string ⟨a.N.toArray⟩, .string ⟨a.S.toArray⟩, .int .i64 a.O, .int .i64 a.A, .int .i64 a.B.K, .int .i64 a.B.M, .int .i64 a.B.W, .int .i64 a.B.D, .int .i64 a.B.T, .int .i64 a.E.K, .int .i64 a.E.M, .int .i64 a.E.W, .int .i64 a.E.D, .int .i64 a.E.T]) rfl (by kernel_rfl) (by kernel_rfl) (by kernel_rfl) (fun _ _ _ h => h) (Or.inl ⟨by rfl, fun w hSw => by go_simp⟩) hHeld ?_
  try simp only [Act.put, List.setIfInBounds_toArray, List.set_cons_zero, List.set_cons_succ, List.getElem_toArray, List.getElem_cons_succ, List.getElem_cons_zero]
  obtain ⟨x0, x1, x2, x3, x4, x5, x6, x7, x8, x9, x10, x11, x12, x13⟩ := see_block14 (bel_keep kw9.bel N1.out)
  obtain ⟨f0, f1, f2, f3, f4, f5, f6, f7, f8, f9, f10, f11, f12, f13⟩ := free_block14 (bel_keep kw9.bel N1.out)
  have kb := Lib.hid (B1.out.trans (kw9.bel.mono B1.out.size))
  obtain ⟨F1, F2, F3⟩ := set_block14 (bel_keep kw9.bel N1.out) kb.out (by have := HQ.out; omega) (.string ⟨a.N.toArray⟩) (.string ⟨a.S.toArray⟩) (.int .i64 a.O) (.int .i64 a.A) (.int .i64 a.B.K) (.int .i64 a.B.M) (.int .i64 a.B.W) (.int .i64 a.B.D) (.int .i64 a.B.T) (.int .i64 a.E.K) (.int .i64 a.E.M) (.int .i64 a.E.W) (.int .i64 a.E.D) (.int .i64 a.E.T)
  have F4 := F3 w.heap.size _ (by have := HQ.out; omega) (P1.out.keep kw9.bel)
  have F5 := Lib.hid F1; have F6 := Lib.hid F2; have F7 := Lib.hid F4
  clear F1 F2 F3 F4
  refine wpAnyH_ready (rs := [15]) (by kernel_rfl) (by simp) ?_
  refine AllReadyH.cons rfl (fun K hK => ?_) AllReadyH.nil
  have HK := Lib.hid hK; clear hK
  go_simp
  refine HK.out _ (put17_14 w9 q (.string ⟨a.N.toArray⟩) (.string ⟨a.S.toArray⟩) (.int .i64 a.O) (.int .i64 a.A) (.int .i64 a.B.K) (.int .i64 a.B.M) (.int .i64 a.B.W) (.int .i64 a.B.D) (.int .i64 a.B.T) (.int .i64 a.E.K) (.int .i64 a.E.M) (.int .i64 a.E.W) (.int .i64 a.E.D) (.int .i64 a.E.T)) ⟨see_block14 F7.out, F5.out⟩ (fun hHeld => ?_)
  clear HK K
  try simp only [Act.put, List.setIfInBounds_toArray, List.set_cons_zero, List.set_cons_succ, List.getElem_toArray, List.getElem_cons_succ, List.getElem_cons_zero]
  refine wpAnyH_done (by kernel_rfl) ?_ _
  generalize (put17_14 w9 q (.string ⟨a.N.toArray⟩) (.string ⟨a.S.toArray⟩) (.int .i64 a.O) (.int .i64 a.A) (.int .i64 a.B.K) (.int .i64 a.B.M) (.int .i64 a.B.W) (.int .i64 a.B.D) (.int .i64 a.B.T) (.int .i64 a.E.K) (.int .i64 a.E.M) (.int .i64 a.E.W) (.int .i64 a.E.D) (.int .i64 a.E.T)) = W99 at *
  obtain ⟨r0, r1, r2, r3, r4, r5, r6, r7, r8, r9, r10, r11, r12, r13⟩ := see_block14 F6.out
  go_wp2_with fail
  refine bodyPost_ret (v := .agg #[.string ⟨a.N.toArray⟩, .string ⟨a.S.toArray⟩, .int .i64 a.O, .int .i64 a.A, .int .i64 a.B.K, .int .i64 a.B.M, .int .i64 a.B.W, .int .i64 a.B.D, .int .i64 a.B.T, .int .i64 a.E.K, .int .i64 a.E.M, .int .i64 a.E.W, .int .i64 a.E.D, .int .i64 a.E.T]) (by simp [results, Try.results7, go_sem, r0, r1, r2, r3, r4, r5, r6, r7, r8, r9, r10, r11, r12, r13]) rfl ⟨rfl, F5.out⟩
end Go.Proofs.Ytkhcneacjnpcnaa
