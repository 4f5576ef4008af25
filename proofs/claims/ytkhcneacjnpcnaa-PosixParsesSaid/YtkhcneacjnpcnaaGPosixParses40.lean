/- Merged: RulDm. -/
import Derived.Test.YtkhcneacjnpcnaaGPosixParses39
import Derived.Test.YtkhcneacjnpcnaaGPosixParses20
import Derived.Test.YtkhcneacjnpcnaaGPosixParses22
import Derived.LoopN
namespace Go.Proofs.Ytkhcneacjnpcnaa
open Go.RowKit
set_option linter.unusedVariables false
set_option linter.unusedSimpArgs false

/-- The result's box, the rule's. -/
structure Dc (w W : World) (p q : Nat) (qs : Array Value) : Prop where
  res : W.heap[p]? = some (.cells #[.int .i64 0, .int .i64 0, .int .i64 0, .int .i64 0, .int .i64 0] 31 (0, 0))
  bq : W.heap[q]? = some (.cells qs 31 (0, 0))
  bel : Below w.heap.size w W
  lp : w.heap.size ≤ p
  lq : w.heap.size ≤ q
  pq : p ≠ q
section
variable {w W W' : World} {p q : Nat} {qs : Array Value}
theorem bel_same {x : Nat} {o : Obj} (hb : Below W.heap.size W W') (h : W.heap[x]? = some o) : W'.heap[x]? = some o := (hb.block x (bk_lt h)).trans h
theorem Dc.keep (h : Dc w W p q qs) (hb : Below W.heap.size W W') : Dc w W' p q qs :=
  ⟨bel_same hb h.res, bel_same hb h.bq, h.bel.trans (hb.mono h.bel.size), h.lp, h.lq, h.pq⟩
theorem Dc.set (h : Dc w W p q qs) (i : Nat) (u : Value) : Dc w (W.setCell ⟨q, i, none⟩ u) p q (qs.setIfInBounds i u) :=
  ⟨blk_set h.res h.pq i u, bk_set h.bq i u, h.bel.setCell h.lq u, h.lp, h.lq, h.pq⟩
theorem Dc.seep (h : Dc w W p q qs) : W.cell? ⟨p, 0, none⟩ = some (.int .i64 0) ∧ W.cell? ⟨p, 1, none⟩ = some (.int .i64 0) ∧ W.cell? ⟨p, 2, none⟩ = some (.int .i64 0) ∧ W.cell? ⟨p, 3, none⟩ = some (.int .i64 0) ∧ W.cell? ⟨p, 4, none⟩ = some (.int .i64 0) ∧
    W.frozen? ⟨p, 0, none⟩ = false ∧ W.frozen? ⟨p, 1, none⟩ = false ∧ W.frozen? ⟨p, 2, none⟩ = false ∧ W.frozen? ⟨p, 3, none⟩ = false ∧ W.frozen? ⟨p, 4, none⟩ = false :=
  ⟨bk_cell h.res 0, bk_cell h.res 1, bk_cell h.res 2, bk_cell h.res 3, bk_cell h.res 4, bk_free h.res 0, bk_free h.res 1, bk_free h.res 2, bk_free h.res 3, bk_free h.res 4⟩
theorem Dc.seeq {K M D A T : Int} (h : Dc w W p q #[.int .i64 K, .int .i64 M, .int .i64 D, .int .i64 A, .int .i64 T]) : W.cell? ⟨q, 0, none⟩ = some (.int .i64 K) ∧ W.cell? ⟨q, 1, none⟩ = some (.int .i64 M) ∧ W.cell? ⟨q, 2, none⟩ = some (.int .i64 D) ∧ W.cell? ⟨q, 3, none⟩ = some (.int .i64 A) ∧ W.cell? ⟨q, 4, none⟩ = some (.int .i64 T) ∧
    W.frozen? ⟨q, 0, none⟩ = false ∧ W.frozen? ⟨q, 1, none⟩ = false ∧ W.frozen? ⟨q, 2, none⟩ = false ∧ W.frozen? ⟨q, 3, none⟩ = false ∧ W.frozen? ⟨q, 4, none⟩ = false :=
  ⟨bk_cell h.bq 0, bk_cell h.bq 1, bk_cell h.bq 2, bk_cell h.bq 3, bk_cell h.bq 4, bk_free h.bq 0, bk_free h.bq 1, bk_free h.bq 2, bk_free h.bq 3, bk_free h.bq 4⟩
theorem Dc.new (w : World) : Dc w ((w.alloc (.cells #[.int .i64 0, .int .i64 0, .int .i64 0, .int .i64 0, .int .i64 0] 31)).alloc (.cells #[.int .i64 2, .int .i64 0, .int .i64 0, .int .i64 0, .int .i64 7200] 31)) w.heap.size (w.alloc (.cells #[.int .i64 0, .int .i64 0, .int .i64 0, .int .i64 0, .int .i64 0] 31)).heap.size #[.int .i64 2, .int .i64 0, .int .i64 0, .int .i64 0, .int .i64 7200] :=
  ⟨bel_same (bel16 _ _) (heap_alloc_new w _), heap_alloc_new _ _, (bel16 w _).alloc (bel16 w _).size _, Nat.le_refl _, (bel16 w _).size, by simp⟩
theorem Dc.done (h : Dc w W p q qs) (K M D A T : Int) : Below w.heap.size w (put16r W p K M D A T) ∧ (put16r W p K M D A T).cell? ⟨p, 0, none⟩ = some (.int .i64 K) ∧ (put16r W p K M D A T).cell? ⟨p, 1, none⟩ = some (.int .i64 M) ∧ (put16r W p K M D A T).cell? ⟨p, 2, none⟩ = some (.int .i64 D) ∧
    (put16r W p K M D A T).cell? ⟨p, 3, none⟩ = some (.int .i64 A) ∧ (put16r W p K M D A T).cell? ⟨p, 4, none⟩ = some (.int .i64 T) := by
  have h0 := bk_set (bk_set (bk_set (bk_set (bk_set h.res 0 (.int .i64 K)) 1 (.int .i64 M)) 2 (.int .i64 D)) 3 (.int .i64 A)) 4 (.int .i64 T)
  exact ⟨((((h.bel.setCell h.lp _).setCell h.lp _).setCell h.lp _).setCell h.lp _).setCell h.lp _, bk_cell h0 0, bk_cell h0 1, bk_cell h0 2, bk_cell h0 3, bk_cell h0 4⟩
end
end Go.Proofs.Ytkhcneacjnpcnaa
