/- Merged: PosG. -/
import Derived.Test.YtkhcneacjnpcnaaGPosixParses30
import Derived.Test.YtkhcneacjnpcnaaGPosixParses19
namespace Go.Proofs.Ytkhcneacjnpcnaa
open Go.RowKit
set_option linter.unusedVariables false
set_option linter.unusedSimpArgs false

/-- Parse's memory: the result's box, the scanner, the reader's box. -/
structure Pe (w W : World) (g : Nat) (v : Value) (k : Nat) (e : Int) (r : Nat) : Prop where
  sk : Sk Ts W g v k e
  res : W.heap[w.heap.size]? = some (.cells (#[.string ⟨#[]⟩, .string ⟨#[]⟩, .int .i64 0, .int .i64 0, .int .i64 0, .int .i64 0, .int .i64 0, .int .i64 0, .int .i64 0, .int .i64 0, .int .i64 0, .int .i64 0, .int .i64 0, .int .i64 0] : Array Value) 26 (0, 0))
  br : W.heap[r]? = some (.cells #[.pointer (some ⟨g, 0, none⟩)] 42 (0, 0))
  bel : Below w.heap.size w W
  lg : w.heap.size < g
  lr : w.heap.size < r
  rg : r ≠ g
theorem Pe.mv {w W W' : World} {g k k' r : Nat} {v : Value} {e e' : Int} (h : Pe w W g v k e r) (hm : Mv Ts g v k' e' W W') : Pe w W' g v k' e' r :=
  ⟨hm.1, mv_block hm h.res (by have := h.lg; omega), mv_block hm h.br h.rg, bel_mv h.bel hm (by have := h.lg; omega), h.lg, h.lr, h.rg⟩
theorem Pe.keep {w W W' : World} {g k r : Nat} {v : Value} {e : Int} (h : Pe w W g v k e r) (hb : Below W.heap.size W W') : Pe w W' g v k e r :=
  ⟨h.sk.below hb h.sk.lt, bel_keep hb h.res, bel_keep hb h.br, h.bel.trans (hb.mono h.bel.size), h.lg, h.lr, h.rg⟩
theorem Pe.drew {w W : World} {g k r : Nat} {v : Value} {e : Int} (h : Pe w W g v k e r) (n : Nat) : Pe w (W.drewN n) g v k e r :=
  ⟨h.sk.drewN n, h.res, h.br, below_dn16 h.bel n, h.lg, h.lr, h.rg⟩
theorem Pe.see {w W : World} {g k r : Nat} {v : Value} {e : Int} (h : Pe w W g v k e r) : W.cell? ⟨r, 0, none⟩ = some (.pointer (some ⟨g, 0, none⟩)) := bk_cell h.br 0
/-- And a plan's box. -/
structure Pf (w W : World) (q : Nat) (qs : Array Value) : Prop where
  res : W.heap[w.heap.size]? = some (.cells (#[.string ⟨#[]⟩, .string ⟨#[]⟩, .int .i64 0, .int .i64 0, .int .i64 0, .int .i64 0, .int .i64 0, .int .i64 0, .int .i64 0, .int .i64 0, .int .i64 0, .int .i64 0, .int .i64 0, .int .i64 0] : Array Value) 26 (0, 0))
  box : W.heap[q]? = some (.cells qs 26 (0, 0))
  bel : Below w.heap.size w W
theorem Pf.keep {w W W' : World} {q : Nat} {qs : Array Value} (h : Pf w W q qs) (hb : Below W.heap.size W W') : Pf w W' q qs :=
  ⟨bel_keep hb h.res, bel_keep hb h.box, h.bel.trans (hb.mono h.bel.size)⟩
theorem Pe.box {w W : World} {g k r q : Nat} {v : Value} {e : Int} {qs : Array Value} (h : Pe w W g v k e r) (hq : W.heap[q]? = some (.cells qs 26 (0, 0))) : Pf w W q qs := ⟨h.res, hq, h.bel⟩
theorem Pf.see {w W : World} {q : Nat} {a0 a1 a2 a3 a4 a5 a6 a7 a8 a9 a10 a11 a12 a13 : Value} (h : Pf w W q #[a0, a1, a2, a3, a4, a5, a6, a7, a8, a9, a10, a11, a12, a13]) : W.cell? ⟨q, 0, none⟩ = some a0 ∧ W.cell? ⟨q, 1, none⟩ = some a1 ∧ W.cell? ⟨q, 2, none⟩ = some a2 ∧ W.cell? ⟨q, 3, none⟩ = some a3 ∧ W.cell? ⟨q, 4, none⟩ = some a4 ∧ W.cell? ⟨q, 5, none⟩ = some a5 ∧ W.cell? ⟨q, 6, none⟩ = some a6 ∧ W.cell? ⟨q, 7, none⟩ = some a7 ∧ W.cell? ⟨q, 8, none⟩ = some a8 ∧ W.cell? ⟨q, 9, none⟩ = some a9 ∧ W.cell? ⟨q, 10, none⟩ = some a10 ∧ W.cell? ⟨q, 11, none⟩ = some a11 ∧ W.cell? ⟨q, 12, none⟩ = some a12 ∧ W.cell? ⟨q, 13, none⟩ = some a13 :=
  ⟨bk_cell h.box 0, bk_cell h.box 1, bk_cell h.box 2, bk_cell h.box 3, bk_cell h.box 4, bk_cell h.box 5, bk_cell h.box 6, bk_cell h.box 7, bk_cell h.box 8, bk_cell h.box 9, bk_cell h.box 10, bk_cell h.box 11, bk_cell h.box 12, bk_cell h.box 13⟩
theorem Pf.seep {w W : World} {q : Nat} {qs : Array Value} (h : Pf w W q qs) : W.cell? ⟨w.heap.size, 0, none⟩ = some (.string ⟨#[]⟩) ∧ W.cell? ⟨w.heap.size, 1, none⟩ = some (.string ⟨#[]⟩) ∧ W.cell? ⟨w.heap.size, 2, none⟩ = some (.int .i64 0) ∧ W.cell? ⟨w.heap.size, 3, none⟩ = some (.int .i64 0) ∧ W.cell? ⟨w.heap.size, 4, none⟩ = some (.int .i64 0) ∧ W.cell? ⟨w.heap.size, 5, none⟩ = some (.int .i64 0) ∧ W.cell? ⟨w.heap.size, 6, none⟩ = some (.int .i64 0) ∧ W.cell? ⟨w.heap.size, 7, none⟩ = some (.int .i64 0) ∧ W.cell? ⟨w.heap.size, 8, none⟩ = some (.int .i64 0) ∧ W.cell? ⟨w.heap.size, 9, none⟩ = some (.int .i64 0) ∧ W.cell? ⟨w.heap.size, 10, none⟩ = some (.int .i64 0) ∧ W.cell? ⟨w.heap.size, 11, none⟩ = some (.int .i64 0) ∧ W.cell? ⟨w.heap.size, 12, none⟩ = some (.int .i64 0) ∧ W.cell? ⟨w.heap.size, 13, none⟩ = some (.int .i64 0) ∧ W.frozen? ⟨w.heap.size, 0, none⟩ = false ∧ W.frozen? ⟨w.heap.size, 1, none⟩ = false ∧ W.frozen? ⟨w.heap.size, 2, none⟩ = false ∧ W.frozen? ⟨w.heap.size, 3, none⟩ = false ∧ W.frozen? ⟨w.heap.size, 4, none⟩ = false ∧ W.frozen? ⟨w.heap.size, 5, none⟩ = false ∧ W.frozen? ⟨w.heap.size, 6, none⟩ = false ∧ W.frozen? ⟨w.heap.size, 7, none⟩ = false ∧ W.frozen? ⟨w.heap.size, 8, none⟩ = false ∧ W.frozen? ⟨w.heap.size, 9, none⟩ = false ∧ W.frozen? ⟨w.heap.size, 10, none⟩ = false ∧ W.frozen? ⟨w.heap.size, 11, none⟩ = false ∧ W.frozen? ⟨w.heap.size, 12, none⟩ = false ∧ W.frozen? ⟨w.heap.size, 13, none⟩ = false :=
  ⟨bk_cell h.res 0, bk_cell h.res 1, bk_cell h.res 2, bk_cell h.res 3, bk_cell h.res 4, bk_cell h.res 5, bk_cell h.res 6, bk_cell h.res 7, bk_cell h.res 8, bk_cell h.res 9, bk_cell h.res 10, bk_cell h.res 11, bk_cell h.res 12, bk_cell h.res 13, bk_free h.res 0, bk_free h.res 1, bk_free h.res 2, bk_free h.res 3, bk_free h.res 4, bk_free h.res 5, bk_free h.res 6, bk_free h.res 7, bk_free h.res 8, bk_free h.res 9, bk_free h.res 10, bk_free h.res 11, bk_free h.res 12, bk_free h.res 13⟩
theorem Pf.done {w W : World} {q : Nat} {qs : Array Value} (h : Pf w W q qs) (a0 a1 a2 a3 a4 a5 a6 a7 a8 a9 a10 a11 a12 a13 : Value) : Below w.heap.size w (put17_14 W w.heap.size a0 a1 a2 a3 a4 a5 a6 a7 a8 a9 a10 a11 a12 a13) ∧ (put17_14 W w.heap.size a0 a1 a2 a3 a4 a5 a6 a7 a8 a9 a10 a11 a12 a13).heap[w.heap.size]? = some (.cells #[a0, a1, a2, a3, a4, a5, a6, a7, a8, a9, a10, a11, a12, a13] 26 (0, 0)) := by
  have h0 : (W.setCell ⟨w.heap.size, 0, none⟩ a0).heap[w.heap.size]? = some (.cells (#[a0, .string ⟨#[]⟩, .int .i64 0, .int .i64 0, .int .i64 0, .int .i64 0, .int .i64 0, .int .i64 0, .int .i64 0, .int .i64 0, .int .i64 0, .int .i64 0, .int .i64 0, .int .i64 0] : Array Value) 26 (0, 0)) := bk_set h.res 0 a0
  have b0 : Below w.heap.size w (W.setCell ⟨w.heap.size, 0, none⟩ a0) := Below.setCell h.bel (Nat.le_refl _) a0
  have h1 : ((W.setCell ⟨w.heap.size, 0, none⟩ a0).setCell ⟨w.heap.size, 1, none⟩ a1).heap[w.heap.size]? = some (.cells (#[a0, a1, .int .i64 0, .int .i64 0, .int .i64 0, .int .i64 0, .int .i64 0, .int .i64 0, .int .i64 0, .int .i64 0, .int .i64 0, .int .i64 0, .int .i64 0, .int .i64 0] : Array Value) 26 (0, 0)) := bk_set h0 1 a1
  have b1 : Below w.heap.size w ((W.setCell ⟨w.heap.size, 0, none⟩ a0).setCell ⟨w.heap.size, 1, none⟩ a1) := Below.setCell b0 (Nat.le_refl _) a1
  have h2 : (((W.setCell ⟨w.heap.size, 0, none⟩ a0).setCell ⟨w.heap.size, 1, none⟩ a1).setCell ⟨w.heap.size, 2, none⟩ a2).heap[w.heap.size]? = some (.cells (#[a0, a1, a2, .int .i64 0, .int .i64 0, .int .i64 0, .int .i64 0, .int .i64 0, .int .i64 0, .int .i64 0, .int .i64 0, .int .i64 0, .int .i64 0, .int .i64 0] : Array Value) 26 (0, 0)) := bk_set h1 2 a2
  have b2 : Below w.heap.size w (((W.setCell ⟨w.heap.size, 0, none⟩ a0).setCell ⟨w.heap.size, 1, none⟩ a1).setCell ⟨w.heap.size, 2, none⟩ a2) := Below.setCell b1 (Nat.le_refl _) a2
  have h3 : ((((W.setCell ⟨w.heap.size, 0, none⟩ a0).setCell ⟨w.heap.size, 1, none⟩ a1).setCell ⟨w.heap.size, 2, none⟩ a2).setCell ⟨w.heap.size, 3, none⟩ a3).heap[w.heap.size]? = some (.cells (#[a0, a1, a2, a3, .int .i64 0, .int .i64 0, .int .i64 0, .int .i64 0, .int .i64 0, .int .i64 0, .int .i64 0, .int .i64 0, .int .i64 0, .int .i64 0] : Array Value) 26 (0, 0)) := bk_set h2 3 a3
  have b3 : Below w.heap.size w ((((W.setCell ⟨w.heap.size, 0, none⟩ a0).setCell ⟨w.heap.size, 1, none⟩ a1).setCell ⟨w.heap.size, 2, none⟩ a2).setCell ⟨w.heap.size, 3, none⟩ a3) := Below.setCell b2 (Nat.le_refl _) a3
  have h4 : (((((W.setCell ⟨w.heap.size, 0, none⟩ a0).setCell ⟨w.heap.size, 1, none⟩ a1).setCell ⟨w.heap.size, 2, none⟩ a2).setCell ⟨w.heap.size, 3, none⟩ a3).setCell ⟨w.heap.size, 4, none⟩ a4).heap[w.heap.size]? = some (.cells (#[a0, a1, a2, a3, a4, .int .i64 0, .int .i64 0, .int .i64 0, .int .i64 0, .int .i64 0, .int .i64 0, .int .i64 0, .int .i64 0, .int .i64 0] : Array Value) 26 (0, 0)) := bk_set h3 4 a4
  have b4 : Below w.heap.size w (((((W.setCell ⟨w.heap.size, 0, none⟩ a0).setCell ⟨w.heap.size, 1, none⟩ a1).setCell ⟨w.heap.size, 2, none⟩ a2).setCell ⟨w.heap.size, 3, none⟩ a3).setCell ⟨w.heap.size, 4, none⟩ a4) := Below.setCell b3 (Nat.le_refl _) a4
  have h5 : ((((((W.setCell ⟨w.heap.size, 0, none⟩ a0).setCell ⟨w.heap.size, 1, none⟩ a1).setCell ⟨w.heap.size, 2, none⟩ a2).setCell ⟨w.heap.size, 3, none⟩ a3).setCell ⟨w.heap.size, 4, none⟩ a4).setCell ⟨w.heap.size, 5, none⟩ a5).heap[w.heap.size]? = some (.cells (#[a0, a1, a2, a3, a4, a5, .int .i64 0, .int .i64 0, .int .i64 0, .int .i64 0, .int .i64 0, .int .i64 0, .int .i64 0, .int .i64 0] : Array Value) 26 (0, 0)) := bk_set h4 5 a5
  have b5 : Below w.heap.size w ((((((W.setCell ⟨w.heap.size, 0, none⟩ a0).setCell ⟨w.heap.size, 1, none⟩ a1).setCell ⟨w.heap.size, 2, none⟩ a2).setCell ⟨w.heap.size, 3, none⟩ a3).setCell ⟨w.heap.size, 4, none⟩ a4).setCell ⟨w.heap.size, 5, none⟩ a5) := Below.setCell b4 (Nat.le_refl _) a5
  have h6 : (((((((W.setCell ⟨w.heap.size, 0, none⟩ a0).setCell ⟨w.heap.size, 1, none⟩ a1).setCell ⟨w.heap.size, 2, none⟩ a2).setCell ⟨w.heap.size, 3, none⟩ a3).setCell ⟨w.heap.size, 4, none⟩ a4).setCell ⟨w.heap.size, 5, none⟩ a5).setCell ⟨w.heap.size, 6, none⟩ a6).heap[w.heap.size]? = some (.cells (#[a0, a1, a2, a3, a4, a5, a6, .int .i64 0, .int .i64 0, .int .i64 0, .int .i64 0, .int .i64 0, .int .i64 0, .int .i64 0] : Array Value) 26 (0, 0)) := bk_set h5 6 a6
  have b6 : Below w.heap.size w (((((((W.setCell ⟨w.heap.size, 0, none⟩ a0).setCell ⟨w.heap.size, 1, none⟩ a1).setCell ⟨w.heap.size, 2, none⟩ a2).setCell ⟨w.heap.size, 3, none⟩ a3).setCell ⟨w.heap.size, 4, none⟩ a4).setCell ⟨w.heap.size, 5, none⟩ a5).setCell ⟨w.heap.size, 6, none⟩ a6) := Below.setCell b5 (Nat.le_refl _) a6
  have h7 : ((((((((W.setCell ⟨w.heap.size, 0, none⟩ a0).setCell ⟨w.heap.size, 1, none⟩ a1).setCell ⟨w.heap.size, 2, none⟩ a2).setCell ⟨w.heap.size, 3, none⟩ a3).setCell ⟨w.heap.size, 4, none⟩ a4).setCell ⟨w.heap.size, 5, none⟩ a5).setCell ⟨w.heap.size, 6, none⟩ a6).setCell ⟨w.heap.size, 7, none⟩ a7).heap[w.heap.size]? = some (.cells (#[a0, a1, a2, a3, a4, a5, a6, a7, .int .i64 0, .int .i64 0, .int .i64 0, .int .i64 0, .int .i64 0, .int .i64 0] : Array Value) 26 (0, 0)) := bk_set h6 7 a7
  have b7 : Below w.heap.size w ((((((((W.setCell ⟨w.heap.size, 0, none⟩ a0).setCell ⟨w.heap.size, 1, none⟩ a1).setCell ⟨w.heap.size, 2, none⟩ a2).setCell ⟨w.heap.size, 3, none⟩ a3).setCell ⟨w.heap.size, 4, none⟩ a4).setCell ⟨w.heap.size, 5, none⟩ a5).setCell ⟨w.heap.size, 6, none⟩ a6).setCell ⟨w.heap.size, 7, none⟩ a7) := Below.setCell b6 (Nat.le_refl _) a7
  have h8 : (((((((((W.setCell ⟨w.heap.size, 0, none⟩ a0).setCell ⟨w.heap.size, 1, none⟩ a1).setCell ⟨w.heap.size, 2, none⟩ a2).setCell ⟨w.heap.size, 3, none⟩ a3).setCell ⟨w.heap.size, 4, none⟩ a4).setCell ⟨w.heap.size, 5, none⟩ a5).setCell ⟨w.heap.size, 6, none⟩ a6).setCell ⟨w.heap.size, 7, none⟩ a7).setCell ⟨w.heap.size, 8, none⟩ a8).heap[w.heap.size]? = some (.cells (#[a0, a1, a2, a3, a4, a5, a6, a7, a8, .int .i64 0, .int .i64 0, .int .i64 0, .int .i64 0, .int .i64 0] : Array Value) 26 (0, 0)) := bk_set h7 8 a8
  have b8 : Below w.heap.size w (((((((((W.setCell ⟨w.heap.size, 0, none⟩ a0).setCell ⟨w.heap.size, 1, none⟩ a1).setCell ⟨w.heap.size, 2, none⟩ a2).setCell ⟨w.heap.size, 3, none⟩ a3).setCell ⟨w.heap.size, 4, none⟩ a4).setCell ⟨w.heap.size, 5, none⟩ a5).setCell ⟨w.heap.size, 6, none⟩ a6).setCell ⟨w.heap.size, 7, none⟩ a7).setCell ⟨w.heap.size, 8, none⟩ a8) := Below.setCell b7 (Nat.le_refl _) a8
  have h9 : ((((((((((W.setCell ⟨w.heap.size, 0, none⟩ a0).setCell ⟨w.heap.size, 1, none⟩ a1).setCell ⟨w.heap.size, 2, none⟩ a2).setCell ⟨w.heap.size, 3, none⟩ a3).setCell ⟨w.heap.size, 4, none⟩ a4).setCell ⟨w.heap.size, 5, none⟩ a5).setCell ⟨w.heap.size, 6, none⟩ a6).setCell ⟨w.heap.size, 7, none⟩ a7).setCell ⟨w.heap.size, 8, none⟩ a8).setCell ⟨w.heap.size, 9, none⟩ a9).heap[w.heap.size]? = some (.cells (#[a0, a1, a2, a3, a4, a5, a6, a7, a8, a9, .int .i64 0, .int .i64 0, .int .i64 0, .int .i64 0] : Array Value) 26 (0, 0)) := bk_set h8 9 a9
  have b9 : Below w.heap.size w ((((((((((W.setCell ⟨w.heap.size, 0, none⟩ a0).setCell ⟨w.heap.size, 1, none⟩ a1).setCell ⟨w.heap.size, 2, none⟩ a2).setCell ⟨w.heap.size, 3, none⟩ a3).setCell ⟨w.heap.size, 4, none⟩ a4).setCell ⟨w.heap.size, 5, none⟩ a5).setCell ⟨w.heap.size, 6, none⟩ a6).setCell ⟨w.heap.size, 7, none⟩ a7).setCell ⟨w.heap.size, 8, none⟩ a8).setCell ⟨w.heap.size, 9, none⟩ a9) := Below.setCell b8 (Nat.le_refl _) a9
  have h10 : (((((((((((W.setCell ⟨w.heap.size, 0, none⟩ a0).setCell ⟨w.heap.size, 1, none⟩ a1).setCell ⟨w.heap.size, 2, none⟩ a2).setCell ⟨w.heap.size, 3, none⟩ a3).setCell ⟨w.heap.size, 4, none⟩ a4).setCell ⟨w.heap.size, 5, none⟩ a5).setCell ⟨w.heap.size, 6, none⟩ a6).setCell ⟨w.heap.size, 7, none⟩ a7).setCell ⟨w.heap.size, 8, none⟩ a8).setCell ⟨w.heap.size, 9, none⟩ a9).setCell ⟨w.heap.size, 10, none⟩ a10).heap[w.heap.size]? = some (.cells (#[a0, a1, a2, a3, a4, a5, a6, a7, a8, a9, a10, .int .i64 0, .int .i64 0, .int .i64 0] : Array Value) 26 (0, 0)) := bk_set h9 10 a10
  have b10 : Below w.heap.size w (((((((((((W.setCell ⟨w.heap.size, 0, none⟩ a0).setCell ⟨w.heap.size, 1, none⟩ a1).setCell ⟨w.heap.size, 2, none⟩ a2).setCell ⟨w.heap.size, 3, none⟩ a3).setCell ⟨w.heap.size, 4, none⟩ a4).setCell ⟨w.heap.size, 5, none⟩ a5).setCell ⟨w.heap.size, 6, none⟩ a6).setCell ⟨w.heap.size, 7, none⟩ a7).setCell ⟨w.heap.size, 8, none⟩ a8).setCell ⟨w.heap.size, 9, none⟩ a9).setCell ⟨w.heap.size, 10, none⟩ a10) := Below.setCell b9 (Nat.le_refl _) a10
  have h11 : ((((((((((((W.setCell ⟨w.heap.size, 0, none⟩ a0).setCell ⟨w.heap.size, 1, none⟩ a1).setCell ⟨w.heap.size, 2, none⟩ a2).setCell ⟨w.heap.size, 3, none⟩ a3).setCell ⟨w.heap.size, 4, none⟩ a4).setCell ⟨w.heap.size, 5, none⟩ a5).setCell ⟨w.heap.size, 6, none⟩ a6).setCell ⟨w.heap.size, 7, none⟩ a7).setCell ⟨w.heap.size, 8, none⟩ a8).setCell ⟨w.heap.size, 9, none⟩ a9).setCell ⟨w.heap.size, 10, none⟩ a10).setCell ⟨w.heap.size, 11, none⟩ a11).heap[w.heap.size]? = some (.cells (#[a0, a1, a2, a3, a4, a5, a6, a7, a8, a9, a10, a11, .int .i64 0, .int .i64 0] : Array Value) 26 (0, 0)) := bk_set h10 11 a11
  have b11 : Below w.heap.size w ((((((((((((W.setCell ⟨w.heap.size, 0, none⟩ a0).setCell ⟨w.heap.size, 1, none⟩ a1).setCell ⟨w.heap.size, 2, none⟩ a2).setCell ⟨w.heap.size, 3, none⟩ a3).setCell ⟨w.heap.size, 4, none⟩ a4).setCell ⟨w.heap.size, 5, none⟩ a5).setCell ⟨w.heap.size, 6, none⟩ a6).setCell ⟨w.heap.size, 7, none⟩ a7).setCell ⟨w.heap.size, 8, none⟩ a8).setCell ⟨w.heap.size, 9, none⟩ a9).setCell ⟨w.heap.size, 10, none⟩ a10).setCell ⟨w.heap.size, 11, none⟩ a11) := Below.setCell b10 (Nat.le_refl _) a11
  have h12 : (((((((((((((W.setCell ⟨w.heap.size, 0, none⟩ a0).setCell ⟨w.heap.size, 1, none⟩ a1).setCell ⟨w.heap.size, 2, none⟩ a2).setCell ⟨w.heap.size, 3, none⟩ a3).setCell ⟨w.heap.size, 4, none⟩ a4).setCell ⟨w.heap.size, 5, none⟩ a5).setCell ⟨w.heap.size, 6, none⟩ a6).setCell ⟨w.heap.size, 7, none⟩ a7).setCell ⟨w.heap.size, 8, none⟩ a8).setCell ⟨w.heap.size, 9, none⟩ a9).setCell ⟨w.heap.size, 10, none⟩ a10).setCell ⟨w.heap.size, 11, none⟩ a11).setCell ⟨w.heap.size, 12, none⟩ a12).heap[w.heap.size]? = some (.cells (#[a0, a1, a2, a3, a4, a5, a6, a7, a8, a9, a10, a11, a12, .int .i64 0] : Array Value) 26 (0, 0)) := bk_set h11 12 a12
  have b12 : Below w.heap.size w (((((((((((((W.setCell ⟨w.heap.size, 0, none⟩ a0).setCell ⟨w.heap.size, 1, none⟩ a1).setCell ⟨w.heap.size, 2, none⟩ a2).setCell ⟨w.heap.size, 3, none⟩ a3).setCell ⟨w.heap.size, 4, none⟩ a4).setCell ⟨w.heap.size, 5, none⟩ a5).setCell ⟨w.heap.size, 6, none⟩ a6).setCell ⟨w.heap.size, 7, none⟩ a7).setCell ⟨w.heap.size, 8, none⟩ a8).setCell ⟨w.heap.size, 9, none⟩ a9).setCell ⟨w.heap.size, 10, none⟩ a10).setCell ⟨w.heap.size, 11, none⟩ a11).setCell ⟨w.heap.size, 12, none⟩ a12) := Below.setCell b11 (Nat.le_refl _) a12
  have h13 : ((((((((((((((W.setCell ⟨w.heap.size, 0, none⟩ a0).setCell ⟨w.heap.size, 1, none⟩ a1).setCell ⟨w.heap.size, 2, none⟩ a2).setCell ⟨w.heap.size, 3, none⟩ a3).setCell ⟨w.heap.size, 4, none⟩ a4).setCell ⟨w.heap.size, 5, none⟩ a5).setCell ⟨w.heap.size, 6, none⟩ a6).setCell ⟨w.heap.size, 7, none⟩ a7).setCell ⟨w.heap.size, 8, none⟩ a8).setCell ⟨w.heap.size, 9, none⟩ a9).setCell ⟨w.heap.size, 10, none⟩ a10).setCell ⟨w.heap.size, 11, none⟩ a11).setCell ⟨w.heap.size, 12, none⟩ a12).setCell ⟨w.heap.size, 13, none⟩ a13).heap[w.heap.size]? = some (.cells (#[a0, a1, a2, a3, a4, a5, a6, a7, a8, a9, a10, a11, a12, a13] : Array Value) 26 (0, 0)) := bk_set h12 13 a13
  have b13 : Below w.heap.size w ((((((((((((((W.setCell ⟨w.heap.size, 0, none⟩ a0).setCell ⟨w.heap.size, 1, none⟩ a1).setCell ⟨w.heap.size, 2, none⟩ a2).setCell ⟨w.heap.size, 3, none⟩ a3).setCell ⟨w.heap.size, 4, none⟩ a4).setCell ⟨w.heap.size, 5, none⟩ a5).setCell ⟨w.heap.size, 6, none⟩ a6).setCell ⟨w.heap.size, 7, none⟩ a7).setCell ⟨w.heap.size, 8, none⟩ a8).setCell ⟨w.heap.size, 9, none⟩ a9).setCell ⟨w.heap.size, 10, none⟩ a10).setCell ⟨w.heap.size, 11, none⟩ a11).setCell ⟨w.heap.size, 12, none⟩ a12).setCell ⟨w.heap.size, 13, none⟩ a13) := Below.setCell b12 (Nat.le_refl _) a13
  exact ⟨b13, h13⟩
theorem see_block {W : World} {p : Nat} {T : TypeId} {a0 a1 a2 a3 a4 a5 a6 a7 a8 a9 a10 a11 a12 a13 : Value} (h : W.heap[p]? = some (.cells #[a0, a1, a2, a3, a4, a5, a6, a7, a8, a9, a10, a11, a12, a13] T (0, 0))) : W.cell? ⟨p, 0, none⟩ = some a0 ∧ W.cell? ⟨p, 1, none⟩ = some a1 ∧ W.cell? ⟨p, 2, none⟩ = some a2 ∧ W.cell? ⟨p, 3, none⟩ = some a3 ∧ W.cell? ⟨p, 4, none⟩ = some a4 ∧ W.cell? ⟨p, 5, none⟩ = some a5 ∧ W.cell? ⟨p, 6, none⟩ = some a6 ∧ W.cell? ⟨p, 7, none⟩ = some a7 ∧ W.cell? ⟨p, 8, none⟩ = some a8 ∧ W.cell? ⟨p, 9, none⟩ = some a9 ∧ W.cell? ⟨p, 10, none⟩ = some a10 ∧ W.cell? ⟨p, 11, none⟩ = some a11 ∧ W.cell? ⟨p, 12, none⟩ = some a12 ∧ W.cell? ⟨p, 13, none⟩ = some a13 :=
  ⟨bk_cell h 0, bk_cell h 1, bk_cell h 2, bk_cell h 3, bk_cell h 4, bk_cell h 5, bk_cell h 6, bk_cell h 7, bk_cell h 8, bk_cell h 9, bk_cell h 10, bk_cell h 11, bk_cell h 12, bk_cell h 13⟩
set_option maxRecDepth 100000 in
set_option maxHeartbeats 8000000 in
theorem parse17_e (str : ByteArray) (w : World) (k : Nat) (e F G : Int) (N1 N2 : ByteArray) (o a K M D A C K2 M2 D2 A2 C2 : Int) (f0 : F ≠ 0) (g0 : G ≠ 0)
    (HD : Hid (∀ g w, Sk Ts w g (.string str) 0 0 → Calls Try.prog 10 #[.agg #[.pointer (some ⟨g, 0, none⟩)]] w fun x w' => x = .returned (.agg #[.string N1, .string N2, .int .i64 o, .int .i64 a, .int .i64 K, .int .i64 M, .int .i64 D, .int .i64 A, .int .i64 C, .int .i64 K2, .int .i64 M2, .int .i64 D2, .int .i64 A2, .int .i64 C2]) ∧ Mv Ts g (.string str) k e w w'))
    (HE : Hid (∀ g w, Sk Ts w g (.string str) k e → Calls Try.prog 11 #[.pointer (some ⟨g, 0, none⟩)] w fun x w' => x = .returned (ev F) ∧ ∃ n, w' = w.drewN n))
    : Calls Try.prog 5 #[.string str] w fun x w' => x = .returned (.tuple #[.agg #[.string ⟨#[]⟩, .string ⟨#[]⟩, .int .i64 0, .int .i64 0, .int .i64 0, .int .i64 0, .int .i64 0, .int .i64 0, .int .i64 0, .int .i64 0, .int .i64 0, .int .i64 0, .int .i64 0, .int .i64 0], ev F]) ∧ Below w.heap.size w w' := by
  have q0 := fun op t W x k => guard_ev op t W x k
  have q2 := fun W k => neq_ev W k
  have t1 := ne_yes f0
  have t2 := ne_yes g0
  clear f0 g0
  obtain ⟨W0, hW0⟩ : ∃ W0, W0 = w.alloc (.cells (#[.string ⟨#[]⟩, .string ⟨#[]⟩, .int .i64 0, .int .i64 0, .int .i64 0, .int .i64 0, .int .i64 0, .int .i64 0, .int .i64 0, .int .i64 0, .int .i64 0, .int .i64 0, .int .i64 0, .int .i64 0] : Array Value) 26) := ⟨_, rfl⟩
  have hN := new16_s str W0
  have hS := gnew16_s str W0
  have b0 : Below w.heap.size w W0 := by rw [hW0]; exact bel16 w _
  have z0 : W0.heap.size = w.heap.size + 1 := by rw [hW0]; simp
  have r0' : W0.heap[w.heap.size]? = some (.cells (#[.string ⟨#[]⟩, .string ⟨#[]⟩, .int .i64 0, .int .i64 0, .int .i64 0, .int .i64 0, .int .i64 0, .int .i64 0, .int .i64 0, .int .i64 0, .int .i64 0, .int .i64 0, .int .i64 0, .int .i64 0] : Array Value) 26 (0, 0)) := by rw [hW0]; exact heap_alloc_new w _
  have b1 : Below w.heap.size w (W0.alloc (.cells #[.string str, .int .i64 0, .nilIface] Ts)) := b0.alloc b0.size _
  have r1' := bel_keep (bel16 W0 (.cells #[.string str, .int .i64 0, .nilIface] Ts)) r0'
  obtain ⟨g, hg⟩ : ∃ g, g = W0.heap.size := ⟨_, rfl⟩
  have lg : w.heap.size < g := by omega
  obtain ⟨W1, hW1⟩ : ∃ W1, W1 = W0.alloc (.cells #[.string str, .int .i64 0, .nilIface] Ts) := ⟨_, rfl⟩
  rw [← hW1, ← hg] at hN hS
  rw [← hW1] at b1 r1'
  have s2 := hS.alloc (.cells #[.pointer (some ⟨g, 0, none⟩)] 42)
  have p2 := bel_keep (bel16 W1 (.cells #[.pointer (some ⟨g, 0, none⟩)] 42)) r1'
  have b2 := b1.alloc b1.size (.cells #[.pointer (some ⟨g, 0, none⟩)] 42)
  have n2 : (W1.alloc (.cells #[.pointer (some ⟨g, 0, none⟩)] 42)).heap[W1.heap.size]? = some (.cells #[.pointer (some ⟨g, 0, none⟩)] 42 (0, 0)) := heap_alloc_new W1 _
  have lt1 := hS.lt
  obtain ⟨r, hr⟩ : ∃ r, r = W1.heap.size := ⟨_, rfl⟩
  obtain ⟨W2, hW2⟩ : ∃ W2, W2 = W1.alloc (.cells #[.pointer (some ⟨g, 0, none⟩)] 42) := ⟨_, rfl⟩
  rw [← hW2] at s2 p2 b2 n2
  rw [← hr] at n2
  have S : Hid (Pe w W2 g (.string str) 0 0 r) := Lib.hid ⟨s2, p2, n2, b2, lg, by omega, by omega⟩
  have HN := Lib.hid hN
  clear hN hS b0 z0 r0' b1 r1' lg hW1 hg s2 p2 b2 n2 lt1
  generalize hv : Value.string str = v at *
  have HV := Lib.hid hv
  clear hv
  go_enter Try.func5, Try.ntmps5
  go_upto_region 1 with fail
  rw [← hW0]; clear hW0
  go_upto_region 2 with (go_at_call 9; refine HN.out.mono ?_; rintro x w' ⟨rfl, rfl⟩)
  rw [← hr, ← hW2]
  clear hr hW2
  have c0 := S.out.see
  go_upto_region 3 with (go_at_call 10; refine (HD.out _ _ S.out.sk).mono ?_; rintro x w3 ⟨rfl, hm⟩; have S := Lib.hid (S.out.mv hm); clear hm)
  have s4 := S.out.keep (bel16 w3 (.cells (#[.string N1, .string N2, .int .i64 o, .int .i64 a, .int .i64 K, .int .i64 M, .int .i64 D, .int .i64 A, .int .i64 C, .int .i64 K2, .int .i64 M2, .int .i64 D2, .int .i64 A2, .int .i64 C2] : Array Value) 26))
  have n4 : (w3.alloc (.cells (#[.string N1, .string N2, .int .i64 o, .int .i64 a, .int .i64 K, .int .i64 M, .int .i64 D, .int .i64 A, .int .i64 C, .int .i64 K2, .int .i64 M2, .int .i64 D2, .int .i64 A2, .int .i64 C2] : Array Value) 26)).heap[w3.heap.size]? = some (.cells (#[.string N1, .string N2, .int .i64 o, .int .i64 a, .int .i64 K, .int .i64 M, .int .i64 D, .int .i64 A, .int .i64 C, .int .i64 K2, .int .i64 M2, .int .i64 D2, .int .i64 A2, .int .i64 C2] : Array Value) 26 (0, 0)) := heap_alloc_new w3 _
  obtain ⟨q, hq⟩ : ∃ q, q = w3.heap.size := ⟨_, rfl⟩
  obtain ⟨W4, hW4⟩ : ∃ W4, W4 = w3.alloc (.cells (#[.string N1, .string N2, .int .i64 o, .int .i64 a, .int .i64 K, .int .i64 M, .int .i64 D, .int .i64 A, .int .i64 C, .int .i64 K2, .int .i64 M2, .int .i64 D2, .int .i64 A2, .int .i64 C2] : Array Value) 26) := ⟨_, rfl⟩
  rw [← hW4] at s4 n4
  rw [← hq] at n4
  rw [← hW4, ← hq]
  have S := Lib.hid s4
  have Q := Lib.hid n4
  clear hW4 hq s4 n4
  have c0 := S.out.see
  go_upto_region 4 with (go_at_call 11; refine (HE.out _ _ S.out.sk).mono ?_; rintro x w9 ⟨rfl, nq, rfl⟩; have S := Lib.hid (S.out.drew nq))
  obtain ⟨W5, hW5⟩ : ∃ W5, W5 = W4.drewN nq := ⟨_, rfl⟩
  have q5 : W5.heap[q]? = some (.cells (#[.string N1, .string N2, .int .i64 o, .int .i64 a, .int .i64 K, .int .i64 M, .int .i64 D, .int .i64 A, .int .i64 C, .int .i64 K2, .int .i64 M2, .int .i64 D2, .int .i64 A2, .int .i64 C2] : Array Value) 26 (0, 0)) := by rw [hW5]; exact Q.out
  rw [← hW5] at S
  rw [← hW5]
  have P := Lib.hid (S.out.box q5)
  clear hW5 q5 c0 S Q
  obtain ⟨d0, d1, d2, d3, d4, d5, d6, d7, d8, d9, d10, d11, d12, d13⟩ := P.out.see
  obtain ⟨x0, x1, x2, x3, x4, x5, x6, x7, x8, x9, x10, x11, x12, x13, f0, f1, f2, f3, f4, f5, f6, f7, f8, f9, f10, f11, f12, f13⟩ := P.out.seep
  go_wp2_with fail
  obtain ⟨F1, F2⟩ := P.out.done (.string ⟨#[]⟩) (.string ⟨#[]⟩) (.int .i64 0) (.int .i64 0) (.int .i64 0) (.int .i64 0) (.int .i64 0) (.int .i64 0) (.int .i64 0) (.int .i64 0) (.int .i64 0) (.int .i64 0) (.int .i64 0) (.int .i64 0)
  show bodyPost _ _ _ _ _ (put17_14 W5 w.heap.size (.string ⟨#[]⟩) (.string ⟨#[]⟩) (.int .i64 0) (.int .i64 0) (.int .i64 0) (.int .i64 0) (.int .i64 0) (.int .i64 0) (.int .i64 0) (.int .i64 0) (.int .i64 0) (.int .i64 0) (.int .i64 0) (.int .i64 0))
  generalize put17_14 W5 w.heap.size (.string ⟨#[]⟩) (.string ⟨#[]⟩) (.int .i64 0) (.int .i64 0) (.int .i64 0) (.int .i64 0) (.int .i64 0) (.int .i64 0) (.int .i64 0) (.int .i64 0) (.int .i64 0) (.int .i64 0) (.int .i64 0) (.int .i64 0) = W99 at *
  obtain ⟨r0, r1, r2, r3, r4, r5, r6, r7, r8, r9, r10, r11, r12, r13⟩ := see_block F2
  refine bodyPost_ret (v := .tuple #[.agg #[.string ⟨#[]⟩, .string ⟨#[]⟩, .int .i64 0, .int .i64 0, .int .i64 0, .int .i64 0, .int .i64 0, .int .i64 0, .int .i64 0, .int .i64 0, .int .i64 0, .int .i64 0, .int .i64 0, .int .i64 0], ev F]) (by simp [results, Try.results5, go_sem, r0, r1, r2, r3, r4, r5, r6, r7, r8, r9, r10, r11, r12, r13, ev]) rfl ⟨rfl, F1⟩
set_option maxRecDepth 100000 in
set_option maxHeartbeats 8000000 in
theorem parse17_c (str : ByteArray) (w : World) (k : Nat) (e F G : Int) (N1 N2 : ByteArray) (o a K M D A C K2 M2 D2 A2 C2 : Int) (f0 : F ≠ 0) (g0 : G ≠ 0)
    (HD : Hid (∀ g w, Sk Ts w g (.string str) 0 0 → Calls Try.prog 10 #[.agg #[.pointer (some ⟨g, 0, none⟩)]] w fun x w' => x = .returned (.agg #[.string N1, .string N2, .int .i64 o, .int .i64 a, .int .i64 K, .int .i64 M, .int .i64 D, .int .i64 A, .int .i64 C, .int .i64 K2, .int .i64 M2, .int .i64 D2, .int .i64 A2, .int .i64 C2]) ∧ Mv Ts g (.string str) k e w w'))
    (HE : Hid (∀ g w, Sk Ts w g (.string str) k e → Calls Try.prog 11 #[.pointer (some ⟨g, 0, none⟩)] w fun x w' => x = .returned (ev 0) ∧ ∃ n, w' = w.drewN n))
    (HX : Hid (∀ w, Calls Try.prog 12 #[.agg #[.string N1, .string N2, .int .i64 o, .int .i64 a, .int .i64 K, .int .i64 M, .int .i64 D, .int .i64 A, .int .i64 C, .int .i64 K2, .int .i64 M2, .int .i64 D2, .int .i64 A2, .int .i64 C2]] w fun x w' => x = .returned (ev G) ∧ Below w.heap.size w w'))
    : Calls Try.prog 5 #[.string str] w fun x w' => x = .returned (.tuple #[.agg #[.string ⟨#[]⟩, .string ⟨#[]⟩, .int .i64 0, .int .i64 0, .int .i64 0, .int .i64 0, .int .i64 0, .int .i64 0, .int .i64 0, .int .i64 0, .int .i64 0, .int .i64 0, .int .i64 0, .int .i64 0], ev G]) ∧ Below w.heap.size w w' := by
  have q0 := fun op t W x k => guard_ev op t W x k
  have q2 := fun W k => neq_ev W k
  have t1 := ne_yes f0
  have t2 := ne_yes g0
  clear f0 g0
  obtain ⟨W0, hW0⟩ : ∃ W0, W0 = w.alloc (.cells (#[.string ⟨#[]⟩, .string ⟨#[]⟩, .int .i64 0, .int .i64 0, .int .i64 0, .int .i64 0, .int .i64 0, .int .i64 0, .int .i64 0, .int .i64 0, .int .i64 0, .int .i64 0, .int .i64 0, .int .i64 0] : Array Value) 26) := ⟨_, rfl⟩
  have hN := new16_s str W0
  have hS := gnew16_s str W0
  have b0 : Below w.heap.size w W0 := by rw [hW0]; exact bel16 w _
  have z0 : W0.heap.size = w.heap.size + 1 := by rw [hW0]; simp
  have r0' : W0.heap[w.heap.size]? = some (.cells (#[.string ⟨#[]⟩, .string ⟨#[]⟩, .int .i64 0, .int .i64 0, .int .i64 0, .int .i64 0, .int .i64 0, .int .i64 0, .int .i64 0, .int .i64 0, .int .i64 0, .int .i64 0, .int .i64 0, .int .i64 0] : Array Value) 26 (0, 0)) := by rw [hW0]; exact heap_alloc_new w _
  have b1 : Below w.heap.size w (W0.alloc (.cells #[.string str, .int .i64 0, .nilIface] Ts)) := b0.alloc b0.size _
  have r1' := bel_keep (bel16 W0 (.cells #[.string str, .int .i64 0, .nilIface] Ts)) r0'
  obtain ⟨g, hg⟩ : ∃ g, g = W0.heap.size := ⟨_, rfl⟩
  have lg : w.heap.size < g := by omega
  obtain ⟨W1, hW1⟩ : ∃ W1, W1 = W0.alloc (.cells #[.string str, .int .i64 0, .nilIface] Ts) := ⟨_, rfl⟩
  rw [← hW1, ← hg] at hN hS
  rw [← hW1] at b1 r1'
  have s2 := hS.alloc (.cells #[.pointer (some ⟨g, 0, none⟩)] 42)
  have p2 := bel_keep (bel16 W1 (.cells #[.pointer (some ⟨g, 0, none⟩)] 42)) r1'
  have b2 := b1.alloc b1.size (.cells #[.pointer (some ⟨g, 0, none⟩)] 42)
  have n2 : (W1.alloc (.cells #[.pointer (some ⟨g, 0, none⟩)] 42)).heap[W1.heap.size]? = some (.cells #[.pointer (some ⟨g, 0, none⟩)] 42 (0, 0)) := heap_alloc_new W1 _
  have lt1 := hS.lt
  obtain ⟨r, hr⟩ : ∃ r, r = W1.heap.size := ⟨_, rfl⟩
  obtain ⟨W2, hW2⟩ : ∃ W2, W2 = W1.alloc (.cells #[.pointer (some ⟨g, 0, none⟩)] 42) := ⟨_, rfl⟩
  rw [← hW2] at s2 p2 b2 n2
  rw [← hr] at n2
  have S : Hid (Pe w W2 g (.string str) 0 0 r) := Lib.hid ⟨s2, p2, n2, b2, lg, by omega, by omega⟩
  have HN := Lib.hid hN
  clear hN hS b0 z0 r0' b1 r1' lg hW1 hg s2 p2 b2 n2 lt1
  generalize hv : Value.string str = v at *
  have HV := Lib.hid hv
  clear hv
  go_enter Try.func5, Try.ntmps5
  go_upto_region 1 with fail
  rw [← hW0]; clear hW0
  go_upto_region 2 with (go_at_call 9; refine HN.out.mono ?_; rintro x w' ⟨rfl, rfl⟩)
  rw [← hr, ← hW2]
  clear hr hW2
  have c0 := S.out.see
  go_upto_region 3 with (go_at_call 10; refine (HD.out _ _ S.out.sk).mono ?_; rintro x w3 ⟨rfl, hm⟩; have S := Lib.hid (S.out.mv hm); clear hm)
  have s4 := S.out.keep (bel16 w3 (.cells (#[.string N1, .string N2, .int .i64 o, .int .i64 a, .int .i64 K, .int .i64 M, .int .i64 D, .int .i64 A, .int .i64 C, .int .i64 K2, .int .i64 M2, .int .i64 D2, .int .i64 A2, .int .i64 C2] : Array Value) 26))
  have n4 : (w3.alloc (.cells (#[.string N1, .string N2, .int .i64 o, .int .i64 a, .int .i64 K, .int .i64 M, .int .i64 D, .int .i64 A, .int .i64 C, .int .i64 K2, .int .i64 M2, .int .i64 D2, .int .i64 A2, .int .i64 C2] : Array Value) 26)).heap[w3.heap.size]? = some (.cells (#[.string N1, .string N2, .int .i64 o, .int .i64 a, .int .i64 K, .int .i64 M, .int .i64 D, .int .i64 A, .int .i64 C, .int .i64 K2, .int .i64 M2, .int .i64 D2, .int .i64 A2, .int .i64 C2] : Array Value) 26 (0, 0)) := heap_alloc_new w3 _
  obtain ⟨q, hq⟩ : ∃ q, q = w3.heap.size := ⟨_, rfl⟩
  obtain ⟨W4, hW4⟩ : ∃ W4, W4 = w3.alloc (.cells (#[.string N1, .string N2, .int .i64 o, .int .i64 a, .int .i64 K, .int .i64 M, .int .i64 D, .int .i64 A, .int .i64 C, .int .i64 K2, .int .i64 M2, .int .i64 D2, .int .i64 A2, .int .i64 C2] : Array Value) 26) := ⟨_, rfl⟩
  rw [← hW4] at s4 n4
  rw [← hq] at n4
  rw [← hW4, ← hq]
  have S := Lib.hid s4
  have Q := Lib.hid n4
  clear hW4 hq s4 n4
  have c0 := S.out.see
  go_upto_region 4 with (go_at_call 11; refine (HE.out _ _ S.out.sk).mono ?_; rintro x w9 ⟨rfl, nq, rfl⟩; have S := Lib.hid (S.out.drew nq))
  obtain ⟨W5, hW5⟩ : ∃ W5, W5 = W4.drewN nq := ⟨_, rfl⟩
  have q5 : W5.heap[q]? = some (.cells (#[.string N1, .string N2, .int .i64 o, .int .i64 a, .int .i64 K, .int .i64 M, .int .i64 D, .int .i64 A, .int .i64 C, .int .i64 K2, .int .i64 M2, .int .i64 D2, .int .i64 A2, .int .i64 C2] : Array Value) 26 (0, 0)) := by rw [hW5]; exact Q.out
  rw [← hW5] at S
  rw [← hW5]
  have P := Lib.hid (S.out.box q5)
  clear hW5 q5 c0 S Q
  obtain ⟨d0, d1, d2, d3, d4, d5, d6, d7, d8, d9, d10, d11, d12, d13⟩ := P.out.see
  obtain ⟨x0, x1, x2, x3, x4, x5, x6, x7, x8, x9, x10, x11, x12, x13, f0, f1, f2, f3, f4, f5, f6, f7, f8, f9, f10, f11, f12, f13⟩ := P.out.seep
  go_wp2_with (go_at_call 12; refine (HX.out _).mono ?_; rintro x w6 ⟨rfl, hb⟩; have P := Lib.hid (P.out.keep hb); clear hb; obtain ⟨d0, d1, d2, d3, d4, d5, d6, d7, d8, d9, d10, d11, d12, d13⟩ := P.out.see; obtain ⟨x0, x1, x2, x3, x4, x5, x6, x7, x8, x9, x10, x11, x12, x13, f0, f1, f2, f3, f4, f5, f6, f7, f8, f9, f10, f11, f12, f13⟩ := P.out.seep)
  obtain ⟨F1, F2⟩ := P.out.done (.string ⟨#[]⟩) (.string ⟨#[]⟩) (.int .i64 0) (.int .i64 0) (.int .i64 0) (.int .i64 0) (.int .i64 0) (.int .i64 0) (.int .i64 0) (.int .i64 0) (.int .i64 0) (.int .i64 0) (.int .i64 0) (.int .i64 0)
  show bodyPost _ _ _ _ _ (put17_14 w6 w.heap.size (.string ⟨#[]⟩) (.string ⟨#[]⟩) (.int .i64 0) (.int .i64 0) (.int .i64 0) (.int .i64 0) (.int .i64 0) (.int .i64 0) (.int .i64 0) (.int .i64 0) (.int .i64 0) (.int .i64 0) (.int .i64 0) (.int .i64 0))
  generalize put17_14 w6 w.heap.size (.string ⟨#[]⟩) (.string ⟨#[]⟩) (.int .i64 0) (.int .i64 0) (.int .i64 0) (.int .i64 0) (.int .i64 0) (.int .i64 0) (.int .i64 0) (.int .i64 0) (.int .i64 0) (.int .i64 0) (.int .i64 0) (.int .i64 0) = W99 at *
  obtain ⟨r0, r1, r2, r3, r4, r5, r6, r7, r8, r9, r10, r11, r12, r13⟩ := see_block F2
  refine bodyPost_ret (v := .tuple #[.agg #[.string ⟨#[]⟩, .string ⟨#[]⟩, .int .i64 0, .int .i64 0, .int .i64 0, .int .i64 0, .int .i64 0, .int .i64 0, .int .i64 0, .int .i64 0, .int .i64 0, .int .i64 0, .int .i64 0, .int .i64 0], ev G]) (by simp [results, Try.results5, go_sem, r0, r1, r2, r3, r4, r5, r6, r7, r8, r9, r10, r11, r12, r13, ev]) rfl ⟨rfl, F1⟩
set_option maxRecDepth 100000 in
set_option maxHeartbeats 8000000 in
theorem parse17_g (str : ByteArray) (w : World) (k : Nat) (e F G : Int) (N1 N2 : ByteArray) (o a K M D A C K2 M2 D2 A2 C2 : Int) (f0 : F ≠ 0) (g0 : G ≠ 0)
    (HD : Hid (∀ g w, Sk Ts w g (.string str) 0 0 → Calls Try.prog 10 #[.agg #[.pointer (some ⟨g, 0, none⟩)]] w fun x w' => x = .returned (.agg #[.string N1, .string N2, .int .i64 o, .int .i64 a, .int .i64 K, .int .i64 M, .int .i64 D, .int .i64 A, .int .i64 C, .int .i64 K2, .int .i64 M2, .int .i64 D2, .int .i64 A2, .int .i64 C2]) ∧ Mv Ts g (.string str) k e w w'))
    (HE : Hid (∀ g w, Sk Ts w g (.string str) k e → Calls Try.prog 11 #[.pointer (some ⟨g, 0, none⟩)] w fun x w' => x = .returned (ev 0) ∧ ∃ n, w' = w.drewN n))
    (HX : Hid (∀ w, Calls Try.prog 12 #[.agg #[.string N1, .string N2, .int .i64 o, .int .i64 a, .int .i64 K, .int .i64 M, .int .i64 D, .int .i64 A, .int .i64 C, .int .i64 K2, .int .i64 M2, .int .i64 D2, .int .i64 A2, .int .i64 C2]] w fun x w' => x = .returned (ev 0) ∧ Below w.heap.size w w'))
    : Calls Try.prog 5 #[.string str] w fun x w' => x = .returned (.tuple #[.agg #[.string N1, .string N2, .int .i64 o, .int .i64 a, .int .i64 K, .int .i64 M, .int .i64 D, .int .i64 A, .int .i64 C, .int .i64 K2, .int .i64 M2, .int .i64 D2, .int .i64 A2, .int .i64 C2], ev 0]) ∧ Below w.heap.size w w' := by
  have q0 := fun op t W x k => guard_ev op t W x k
  have q2 := fun W k => neq_ev W k
  have t1 := ne_yes f0
  have t2 := ne_yes g0
  clear f0 g0
  obtain ⟨W0, hW0⟩ : ∃ W0, W0 = w.alloc (.cells (#[.string ⟨#[]⟩, .string ⟨#[]⟩, .int .i64 0, .int .i64 0, .int .i64 0, .int .i64 0, .int .i64 0, .int .i64 0, .int .i64 0, .int .i64 0, .int .i64 0, .int .i64 0, .int .i64 0, .int .i64 0] : Array Value) 26) := ⟨_, rfl⟩
  have hN := new16_s str W0
  have hS := gnew16_s str W0
  have b0 : Below w.heap.size w W0 := by rw [hW0]; exact bel16 w _
  have z0 : W0.heap.size = w.heap.size + 1 := by rw [hW0]; simp
  have r0' : W0.heap[w.heap.size]? = some (.cells (#[.string ⟨#[]⟩, .string ⟨#[]⟩, .int .i64 0, .int .i64 0, .int .i64 0, .int .i64 0, .int .i64 0, .int .i64 0, .int .i64 0, .int .i64 0, .int .i64 0, .int .i64 0, .int .i64 0, .int .i64 0] : Array Value) 26 (0, 0)) := by rw [hW0]; exact heap_alloc_new w _
  have b1 : Below w.heap.size w (W0.alloc (.cells #[.string str, .int .i64 0, .nilIface] Ts)) := b0.alloc b0.size _
  have r1' := bel_keep (bel16 W0 (.cells #[.string str, .int .i64 0, .nilIface] Ts)) r0'
  obtain ⟨g, hg⟩ : ∃ g, g = W0.heap.size := ⟨_, rfl⟩
  have lg : w.heap.size < g := by omega
  obtain ⟨W1, hW1⟩ : ∃ W1, W1 = W0.alloc (.cells #[.string str, .int .i64 0, .nilIface] Ts) := ⟨_, rfl⟩
  rw [← hW1, ← hg] at hN hS
  rw [← hW1] at b1 r1'
  have s2 := hS.alloc (.cells #[.pointer (some ⟨g, 0, none⟩)] 42)
  have p2 := bel_keep (bel16 W1 (.cells #[.pointer (some ⟨g, 0, none⟩)] 42)) r1'
  have b2 := b1.alloc b1.size (.cells #[.pointer (some ⟨g, 0, none⟩)] 42)
  have n2 : (W1.alloc (.cells #[.pointer (some ⟨g, 0, none⟩)] 42)).heap[W1.heap.size]? = some (.cells #[.pointer (some ⟨g, 0, none⟩)] 42 (0, 0)) := heap_alloc_new W1 _
  have lt1 := hS.lt
  obtain ⟨r, hr⟩ : ∃ r, r = W1.heap.size := ⟨_, rfl⟩
  obtain ⟨W2, hW2⟩ : ∃ W2, W2 = W1.alloc (.cells #[.pointer (some ⟨g, 0, none⟩)] 42) := ⟨_, rfl⟩
  rw [← hW2] at s2 p2 b2 n2
  rw [← hr] at n2
  have S : Hid (Pe w W2 g (.string str) 0 0 r) := Lib.hid ⟨s2, p2, n2, b2, lg, by omega, by omega⟩
  have HN := Lib.hid hN
  clear hN hS b0 z0 r0' b1 r1' lg hW1 hg s2 p2 b2 n2 lt1
  generalize hv : Value.string str = v at *
  have HV := Lib.hid hv
  clear hv
  go_enter Try.func5, Try.ntmps5
  go_upto_region 1 with fail
  rw [← hW0]; clear hW0
  go_upto_region 2 with (go_at_call 9; refine HN.out.mono ?_; rintro x w' ⟨rfl, rfl⟩)
  rw [← hr, ← hW2]
  clear hr hW2
  have c0 := S.out.see
  go_upto_region 3 with (go_at_call 10; refine (HD.out _ _ S.out.sk).mono ?_; rintro x w3 ⟨rfl, hm⟩; have S := Lib.hid (S.out.mv hm); clear hm)
  have s4 := S.out.keep (bel16 w3 (.cells (#[.string N1, .string N2, .int .i64 o, .int .i64 a, .int .i64 K, .int .i64 M, .int .i64 D, .int .i64 A, .int .i64 C, .int .i64 K2, .int .i64 M2, .int .i64 D2, .int .i64 A2, .int .i64 C2] : Array Value) 26))
  have n4 : (w3.alloc (.cells (#[.string N1, .string N2, .int .i64 o, .int .i64 a, .int .i64 K, .int .i64 M, .int .i64 D, .int .i64 A, .int .i64 C, .int .i64 K2, .int .i64 M2, .int .i64 D2, .int .i64 A2, .int .i64 C2] : Array Value) 26)).heap[w3.heap.size]? = some (.cells (#[.string N1, .string N2, .int .i64 o, .int .i64 a, .int .i64 K, .int .i64 M, .int .i64 D, .int .i64 A, .int .i64 C, .int .i64 K2, .int .i64 M2, .int .i64 D2, .int .i64 A2, .int .i64 C2] : Array Value) 26 (0, 0)) := heap_alloc_new w3 _
  obtain ⟨q, hq⟩ : ∃ q, q = w3.heap.size := ⟨_, rfl⟩
  obtain ⟨W4, hW4⟩ : ∃ W4, W4 = w3.alloc (.cells (#[.string N1, .string N2, .int .i64 o, .int .i64 a, .int .i64 K, .int .i64 M, .int .i64 D, .int .i64 A, .int .i64 C, .int .i64 K2, .int .i64 M2, .int .i64 D2, .int .i64 A2, .int .i64 C2] : Array Value) 26) := ⟨_, rfl⟩
  rw [← hW4] at s4 n4
  rw [← hq] at n4
  rw [← hW4, ← hq]
  have S := Lib.hid s4
  have Q := Lib.hid n4
  clear hW4 hq s4 n4
  have c0 := S.out.see
  go_upto_region 4 with (go_at_call 11; refine (HE.out _ _ S.out.sk).mono ?_; rintro x w9 ⟨rfl, nq, rfl⟩; have S := Lib.hid (S.out.drew nq))
  obtain ⟨W5, hW5⟩ : ∃ W5, W5 = W4.drewN nq := ⟨_, rfl⟩
  have q5 : W5.heap[q]? = some (.cells (#[.string N1, .string N2, .int .i64 o, .int .i64 a, .int .i64 K, .int .i64 M, .int .i64 D, .int .i64 A, .int .i64 C, .int .i64 K2, .int .i64 M2, .int .i64 D2, .int .i64 A2, .int .i64 C2] : Array Value) 26 (0, 0)) := by rw [hW5]; exact Q.out
  rw [← hW5] at S
  rw [← hW5]
  have P := Lib.hid (S.out.box q5)
  clear hW5 q5 c0 S Q
  obtain ⟨d0, d1, d2, d3, d4, d5, d6, d7, d8, d9, d10, d11, d12, d13⟩ := P.out.see
  obtain ⟨x0, x1, x2, x3, x4, x5, x6, x7, x8, x9, x10, x11, x12, x13, f0, f1, f2, f3, f4, f5, f6, f7, f8, f9, f10, f11, f12, f13⟩ := P.out.seep
  go_wp2_with (go_at_call 12; refine (HX.out _).mono ?_; rintro x w6 ⟨rfl, hb⟩; have P := Lib.hid (P.out.keep hb); clear hb; obtain ⟨d0, d1, d2, d3, d4, d5, d6, d7, d8, d9, d10, d11, d12, d13⟩ := P.out.see; obtain ⟨x0, x1, x2, x3, x4, x5, x6, x7, x8, x9, x10, x11, x12, x13, f0, f1, f2, f3, f4, f5, f6, f7, f8, f9, f10, f11, f12, f13⟩ := P.out.seep)
  obtain ⟨F1, F2⟩ := P.out.done (.string N1) (.string N2) (.int .i64 o) (.int .i64 a) (.int .i64 K) (.int .i64 M) (.int .i64 D) (.int .i64 A) (.int .i64 C) (.int .i64 K2) (.int .i64 M2) (.int .i64 D2) (.int .i64 A2) (.int .i64 C2)
  show bodyPost _ _ _ _ _ (put17_14 w6 w.heap.size (.string N1) (.string N2) (.int .i64 o) (.int .i64 a) (.int .i64 K) (.int .i64 M) (.int .i64 D) (.int .i64 A) (.int .i64 C) (.int .i64 K2) (.int .i64 M2) (.int .i64 D2) (.int .i64 A2) (.int .i64 C2))
  generalize put17_14 w6 w.heap.size (.string N1) (.string N2) (.int .i64 o) (.int .i64 a) (.int .i64 K) (.int .i64 M) (.int .i64 D) (.int .i64 A) (.int .i64 C) (.int .i64 K2) (.int .i64 M2) (.int .i64 D2) (.int .i64 A2) (.int .i64 C2) = W99 at *
  obtain ⟨r0, r1, r2, r3, r4, r5, r6, r7, r8, r9, r10, r11, r12, r13⟩ := see_block F2
  refine bodyPost_ret (v := .tuple #[.agg #[.string N1, .string N2, .int .i64 o, .int .i64 a, .int .i64 K, .int .i64 M, .int .i64 D, .int .i64 A, .int .i64 C, .int .i64 K2, .int .i64 M2, .int .i64 D2, .int .i64 A2, .int .i64 C2], ev 0]) (by simp [results, Try.results5, go_sem, r0, r1, r2, r3, r4, r5, r6, r7, r8, r9, r10, r11, r12, r13, ev]) rfl ⟨rfl, F1⟩
theorem parse17_any (s : ByteArray) (w : World) (hs : s.size ≤ 100000) :
    Calls Try.prog 5 #[.string s] w fun x w' => x = .returned (.tuple #[.agg (psV s.data.toList).cells, ev (psE s.data.toList)]) ∧ Below w.heap.size w w' := by
  have hsz : s.data.toList.length = s.size := by simp
  have HD := fun g w h => rplan_any g s w h hs
  obtain ⟨-, -, -, -, -, -, lk⟩ := p_le s.data.toList
  have HE := fun g w h => end_s g (plK s.data.toList) (plF s.data.toList) (.string s) s w h rfl (by omega) hs
  have n1 : (plV s.data.toList).N.length ≤ 100000 := by
    have := naS_len s.data.toList 0 0
    unfold plV; split <;> (show (naS _ 0 0).length ≤ _) <;> omega
  have n2 : (plV s.data.toList).S.length ≤ 100000 := by
    have := naS_len s.data.toList (p2K s.data.toList) (p2E s.data.toList)
    unfold plV; split
    · exact Nat.zero_le _
    · show (naS _ _ _).length ≤ _; omega
  have HX := fun w => plcheck_any (plV s.data.toList) w n1 n2
  by_cases c : enE s.data.toList (plK s.data.toList) (plF s.data.toList) = 0
  · have e1 : psE s.data.toList = plE (plV s.data.toList) := if_pos c
    rw [c] at HE
    by_cases d : plE (plV s.data.toList) = 0
    · have e2 : psV s.data.toList = plV s.data.toList := if_pos (e1.trans d)
      rw [e2, e1, d]
      rw [d] at HX
      exact parse17_g s w _ _ 1 1 _ _ _ _ _ _ _ _ _ _ _ _ _ _ (by decide) (by decide) (Lib.hid HD) (Lib.hid HE) (Lib.hid HX)
    · have e2 : psV s.data.toList = pl0 := if_neg (fun h => d (e1.symm.trans h))
      rw [e2, e1]
      exact parse17_c s w _ _ 1 _ _ _ _ _ _ _ _ _ _ _ _ _ _ _ (by decide) d (Lib.hid HD) (Lib.hid HE) (Lib.hid HX)
  · have e1 : psE s.data.toList = enE s.data.toList (plK s.data.toList) (plF s.data.toList) := if_neg c
    have e2 : psV s.data.toList = pl0 := if_neg (fun h => c (e1.symm.trans h))
    rw [e2, e1]
    exact parse17_e s w _ _ _ 1 _ _ _ _ _ _ _ _ _ _ _ _ _ _ c (by decide) (Lib.hid HD) (Lib.hid HE)
end Go.Proofs.Ytkhcneacjnpcnaa
