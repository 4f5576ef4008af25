/- Merged: PosE. -/
import Derived.Test.YtkhcneacjnpcnaaGPosixParses28
namespace Go.Proofs.Ytkhcneacjnpcnaa
open Go.RowKit
set_option linter.unusedVariables false
set_option linter.unusedSimpArgs false

/-- A reader at work beside a result's box. -/
structure Tp (w W : World) (g : Nat) (v : Value) (k : Nat) (e : Int) (p : Nat) (ps : Array Value) (T : TypeId) : Prop where
  tn : Tn w W g v k e
  res : W.heap[p]? = some (.cells ps T (0, 0))
  hp : w.heap.size < p
/-- And a variable's. -/
structure Tq (w W : World) (g : Nat) (v : Value) (k : Nat) (e : Int) (p : Nat) (ps : Array Value) (T : TypeId) (q : Nat) (qs : Array Value) : Prop where
  tp : Tp w W g v k e p ps T
  box : W.heap[q]? = some (.cells qs T (0, 0))
  hq : w.heap.size < q
  pq : p ≠ q
section
variable {w W W' : World} {g k k' p q : Nat} {v : Value} {e e' : Int} {ps qs : Array Value} {T : TypeId}
theorem Tn.setn (h : Tn w W g v k e) (hp : w.heap.size < p) (i : Nat) (u : Value) : Tn w (W.setCell ⟨p, i, none⟩ u) g v k e :=
  ⟨blk_set h.sk (by have := h.gl; omega) i u, blk_set h.box (by omega) i u, gb_new h.gb (by omega) i u, h.gl⟩
theorem Tn.size (h : Tn w W g v k e) : w.heap.size < W.heap.size := bk_lt h.box
theorem Tp.mv (h : Tp w W g v k e p ps T) (hm : Mv Ts g v k' e' W W') : Tp w W' g v k' e' p ps T :=
  ⟨h.tn.mv hm, mv_block hm h.res (by have := h.tn.gl; have := h.hp; omega), h.hp⟩
theorem Tp.keep (h : Tp w W g v k e p ps T) (hb : Below W.heap.size W W') : Tp w W' g v k e p ps T := ⟨h.tn.keep hb, bel_keep hb h.res, h.hp⟩
theorem Tp.drew (h : Tp w W g v k e p ps T) (n : Nat) : Tp w (W.drewN n) g v k e p ps T := ⟨h.tn.drew n, h.res, h.hp⟩
theorem Tp.put (h : Tp w W g v k e p ps T) (i : Nat) (u : Value) : Tp w (W.setCell ⟨p, i, none⟩ u) g v k e p (ps.setIfInBounds i u) T :=
  ⟨h.tn.setn h.hp i u, bk_set h.res i u, h.hp⟩
theorem Tp.new (h : Tn w W g v k e) (ps : Array Value) (T : TypeId) : Tp w (W.alloc (.cells ps T)) g v k e W.heap.size ps T :=
  ⟨h.keep (bel16 W _), heap_alloc_new W _, h.size⟩
theorem Tq.mv (h : Tq w W g v k e p ps T q qs) (hm : Mv Ts g v k' e' W W') : Tq w W' g v k' e' p ps T q qs :=
  ⟨h.tp.mv hm, mv_block hm h.box (by have := h.tp.tn.gl; have := h.hq; omega), h.hq, h.pq⟩
theorem Tq.keep (h : Tq w W g v k e p ps T q qs) (hb : Below W.heap.size W W') : Tq w W' g v k e p ps T q qs := ⟨h.tp.keep hb, bel_keep hb h.box, h.hq, h.pq⟩
theorem Tq.drew (h : Tq w W g v k e p ps T q qs) (n : Nat) : Tq w (W.drewN n) g v k e p ps T q qs := ⟨h.tp.drew n, h.box, h.hq, h.pq⟩
theorem Tq.set (h : Tq w W g v k e p ps T q qs) (i : Nat) (u : Value) : Tq w (W.setCell ⟨q, i, none⟩ u) g v k e p ps T q (qs.setIfInBounds i u) :=
  ⟨⟨h.tp.tn.setn h.hq i u, blk_set h.tp.res h.pq i u, h.tp.hp⟩, bk_set h.box i u, h.hq, h.pq⟩
theorem Tq.new (h : Tp w W g v k e p ps T) (qs : Array Value) : Tq w (W.alloc (.cells qs T)) g v k e p ps T W.heap.size qs :=
  ⟨h.keep (bel16 W _), heap_alloc_new W _, h.tn.size, by have := bk_lt h.res; omega⟩
end
theorem Tp.see5 {w W : World} {g k p : Nat} {v : Value} {e : Int} {T : TypeId} {a0 a1 a2 a3 a4 : Value} (h : Tp w W g v k e p #[a0, a1, a2, a3, a4] T) : W.cell? ⟨p, 0, none⟩ = some a0 ∧ W.cell? ⟨p, 1, none⟩ = some a1 ∧ W.cell? ⟨p, 2, none⟩ = some a2 ∧ W.cell? ⟨p, 3, none⟩ = some a3 ∧ W.cell? ⟨p, 4, none⟩ = some a4 ∧ W.frozen? ⟨p, 0, none⟩ = false ∧ W.frozen? ⟨p, 1, none⟩ = false ∧ W.frozen? ⟨p, 2, none⟩ = false ∧ W.frozen? ⟨p, 3, none⟩ = false ∧ W.frozen? ⟨p, 4, none⟩ = false :=
  ⟨bk_cell h.res 0, bk_cell h.res 1, bk_cell h.res 2, bk_cell h.res 3, bk_cell h.res 4, bk_free h.res 0, bk_free h.res 1, bk_free h.res 2, bk_free h.res 3, bk_free h.res 4⟩
theorem Tq.see5 {w W : World} {g k p q : Nat} {v : Value} {e : Int} {ps : Array Value} {T : TypeId} {a0 a1 a2 a3 a4 : Value} (h : Tq w W g v k e p ps T q #[a0, a1, a2, a3, a4]) : W.cell? ⟨q, 0, none⟩ = some a0 ∧ W.cell? ⟨q, 1, none⟩ = some a1 ∧ W.cell? ⟨q, 2, none⟩ = some a2 ∧ W.cell? ⟨q, 3, none⟩ = some a3 ∧ W.cell? ⟨q, 4, none⟩ = some a4 ∧ W.frozen? ⟨q, 0, none⟩ = false ∧ W.frozen? ⟨q, 1, none⟩ = false ∧ W.frozen? ⟨q, 2, none⟩ = false ∧ W.frozen? ⟨q, 3, none⟩ = false ∧ W.frozen? ⟨q, 4, none⟩ = false :=
  ⟨bk_cell h.box 0, bk_cell h.box 1, bk_cell h.box 2, bk_cell h.box 3, bk_cell h.box 4, bk_free h.box 0, bk_free h.box 1, bk_free h.box 2, bk_free h.box 3, bk_free h.box 4⟩
abbrev put17_5 (W : World) (p : Nat) (a0 a1 a2 a3 a4 : Value) : World := ((((W.setCell ⟨p, 0, none⟩ a0).setCell ⟨p, 1, none⟩ a1).setCell ⟨p, 2, none⟩ a2).setCell ⟨p, 3, none⟩ a3).setCell ⟨p, 4, none⟩ a4
theorem Tp.all5 {w W : World} {g k p : Nat} {v : Value} {e : Int} {T : TypeId} {b0 b1 b2 b3 b4 : Value} (h : Tp w W g v k e p #[b0, b1, b2, b3, b4] T) (a0 a1 a2 a3 a4 : Value) : Tp w (put17_5 W p a0 a1 a2 a3 a4) g v k e p #[a0, a1, a2, a3, a4] T := by
  have h0 : Tp w (W.setCell ⟨p, 0, none⟩ a0) g v k e p #[a0, b1, b2, b3, b4] T := h.put 0 a0
  have h1 : Tp w ((W.setCell ⟨p, 0, none⟩ a0).setCell ⟨p, 1, none⟩ a1) g v k e p #[a0, a1, b2, b3, b4] T := h0.put 1 a1
  have h2 : Tp w (((W.setCell ⟨p, 0, none⟩ a0).setCell ⟨p, 1, none⟩ a1).setCell ⟨p, 2, none⟩ a2) g v k e p #[a0, a1, a2, b3, b4] T := h1.put 2 a2
  have h3 : Tp w ((((W.setCell ⟨p, 0, none⟩ a0).setCell ⟨p, 1, none⟩ a1).setCell ⟨p, 2, none⟩ a2).setCell ⟨p, 3, none⟩ a3) g v k e p #[a0, a1, a2, a3, b4] T := h2.put 3 a3
  have h4 : Tp w (((((W.setCell ⟨p, 0, none⟩ a0).setCell ⟨p, 1, none⟩ a1).setCell ⟨p, 2, none⟩ a2).setCell ⟨p, 3, none⟩ a3).setCell ⟨p, 4, none⟩ a4) g v k e p #[a0, a1, a2, a3, a4] T := h3.put 4 a4
  exact h4
theorem Tp.see14 {w W : World} {g k p : Nat} {v : Value} {e : Int} {T : TypeId} {a0 a1 a2 a3 a4 a5 a6 a7 a8 a9 a10 a11 a12 a13 : Value} (h : Tp w W g v k e p #[a0, a1, a2, a3, a4, a5, a6, a7, a8, a9, a10, a11, a12, a13] T) : W.cell? ⟨p, 0, none⟩ = some a0 ∧ W.cell? ⟨p, 1, none⟩ = some a1 ∧ W.cell? ⟨p, 2, none⟩ = some a2 ∧ W.cell? ⟨p, 3, none⟩ = some a3 ∧ W.cell? ⟨p, 4, none⟩ = some a4 ∧ W.cell? ⟨p, 5, none⟩ = some a5 ∧ W.cell? ⟨p, 6, none⟩ = some a6 ∧ W.cell? ⟨p, 7, none⟩ = some a7 ∧ W.cell? ⟨p, 8, none⟩ = some a8 ∧ W.cell? ⟨p, 9, none⟩ = some a9 ∧ W.cell? ⟨p, 10, none⟩ = some a10 ∧ W.cell? ⟨p, 11, none⟩ = some a11 ∧ W.cell? ⟨p, 12, none⟩ = some a12 ∧ W.cell? ⟨p, 13, none⟩ = some a13 ∧ W.frozen? ⟨p, 0, none⟩ = false ∧ W.frozen? ⟨p, 1, none⟩ = false ∧ W.frozen? ⟨p, 2, none⟩ = false ∧ W.frozen? ⟨p, 3, none⟩ = false ∧ W.frozen? ⟨p, 4, none⟩ = false ∧ W.frozen? ⟨p, 5, none⟩ = false ∧ W.frozen? ⟨p, 6, none⟩ = false ∧ W.frozen? ⟨p, 7, none⟩ = false ∧ W.frozen? ⟨p, 8, none⟩ = false ∧ W.frozen? ⟨p, 9, none⟩ = false ∧ W.frozen? ⟨p, 10, none⟩ = false ∧ W.frozen? ⟨p, 11, none⟩ = false ∧ W.frozen? ⟨p, 12, none⟩ = false ∧ W.frozen? ⟨p, 13, none⟩ = false :=
  ⟨bk_cell h.res 0, bk_cell h.res 1, bk_cell h.res 2, bk_cell h.res 3, bk_cell h.res 4, bk_cell h.res 5, bk_cell h.res 6, bk_cell h.res 7, bk_cell h.res 8, bk_cell h.res 9, bk_cell h.res 10, bk_cell h.res 11, bk_cell h.res 12, bk_cell h.res 13, bk_free h.res 0, bk_free h.res 1, bk_free h.res 2, bk_free h.res 3, bk_free h.res 4, bk_free h.res 5, bk_free h.res 6, bk_free h.res 7, bk_free h.res 8, bk_free h.res 9, bk_free h.res 10, bk_free h.res 11, bk_free h.res 12, bk_free h.res 13⟩
theorem Tq.see14 {w W : World} {g k p q : Nat} {v : Value} {e : Int} {ps : Array Value} {T : TypeId} {a0 a1 a2 a3 a4 a5 a6 a7 a8 a9 a10 a11 a12 a13 : Value} (h : Tq w W g v k e p ps T q #[a0, a1, a2, a3, a4, a5, a6, a7, a8, a9, a10, a11, a12, a13]) : W.cell? ⟨q, 0, none⟩ = some a0 ∧ W.cell? ⟨q, 1, none⟩ = some a1 ∧ W.cell? ⟨q, 2, none⟩ = some a2 ∧ W.cell? ⟨q, 3, none⟩ = some a3 ∧ W.cell? ⟨q, 4, none⟩ = some a4 ∧ W.cell? ⟨q, 5, none⟩ = some a5 ∧ W.cell? ⟨q, 6, none⟩ = some a6 ∧ W.cell? ⟨q, 7, none⟩ = some a7 ∧ W.cell? ⟨q, 8, none⟩ = some a8 ∧ W.cell? ⟨q, 9, none⟩ = some a9 ∧ W.cell? ⟨q, 10, none⟩ = some a10 ∧ W.cell? ⟨q, 11, none⟩ = some a11 ∧ W.cell? ⟨q, 12, none⟩ = some a12 ∧ W.cell? ⟨q, 13, none⟩ = some a13 ∧ W.frozen? ⟨q, 0, none⟩ = false ∧ W.frozen? ⟨q, 1, none⟩ = false ∧ W.frozen? ⟨q, 2, none⟩ = false ∧ W.frozen? ⟨q, 3, none⟩ = false ∧ W.frozen? ⟨q, 4, none⟩ = false ∧ W.frozen? ⟨q, 5, none⟩ = false ∧ W.frozen? ⟨q, 6, none⟩ = false ∧ W.frozen? ⟨q, 7, none⟩ = false ∧ W.frozen? ⟨q, 8, none⟩ = false ∧ W.frozen? ⟨q, 9, none⟩ = false ∧ W.frozen? ⟨q, 10, none⟩ = false ∧ W.frozen? ⟨q, 11, none⟩ = false ∧ W.frozen? ⟨q, 12, none⟩ = false ∧ W.frozen? ⟨q, 13, none⟩ = false :=
  ⟨bk_cell h.box 0, bk_cell h.box 1, bk_cell h.box 2, bk_cell h.box 3, bk_cell h.box 4, bk_cell h.box 5, bk_cell h.box 6, bk_cell h.box 7, bk_cell h.box 8, bk_cell h.box 9, bk_cell h.box 10, bk_cell h.box 11, bk_cell h.box 12, bk_cell h.box 13, bk_free h.box 0, bk_free h.box 1, bk_free h.box 2, bk_free h.box 3, bk_free h.box 4, bk_free h.box 5, bk_free h.box 6, bk_free h.box 7, bk_free h.box 8, bk_free h.box 9, bk_free h.box 10, bk_free h.box 11, bk_free h.box 12, bk_free h.box 13⟩
abbrev put17_14 (W : World) (p : Nat) (a0 a1 a2 a3 a4 a5 a6 a7 a8 a9 a10 a11 a12 a13 : Value) : World := (((((((((((((W.setCell ⟨p, 0, none⟩ a0).setCell ⟨p, 1, none⟩ a1).setCell ⟨p, 2, none⟩ a2).setCell ⟨p, 3, none⟩ a3).setCell ⟨p, 4, none⟩ a4).setCell ⟨p, 5, none⟩ a5).setCell ⟨p, 6, none⟩ a6).setCell ⟨p, 7, none⟩ a7).setCell ⟨p, 8, none⟩ a8).setCell ⟨p, 9, none⟩ a9).setCell ⟨p, 10, none⟩ a10).setCell ⟨p, 11, none⟩ a11).setCell ⟨p, 12, none⟩ a12).setCell ⟨p, 13, none⟩ a13
theorem Tp.all14 {w W : World} {g k p : Nat} {v : Value} {e : Int} {T : TypeId} {b0 b1 b2 b3 b4 b5 b6 b7 b8 b9 b10 b11 b12 b13 : Value} (h : Tp w W g v k e p #[b0, b1, b2, b3, b4, b5, b6, b7, b8, b9, b10, b11, b12, b13] T) (a0 a1 a2 a3 a4 a5 a6 a7 a8 a9 a10 a11 a12 a13 : Value) : Tp w (put17_14 W p a0 a1 a2 a3 a4 a5 a6 a7 a8 a9 a10 a11 a12 a13) g v k e p #[a0, a1, a2, a3, a4, a5, a6, a7, a8, a9, a10, a11, a12, a13] T := by
  have h0 : Tp w (W.setCell ⟨p, 0, none⟩ a0) g v k e p #[a0, b1, b2, b3, b4, b5, b6, b7, b8, b9, b10, b11, b12, b13] T := h.put 0 a0
  have h1 : Tp w ((W.setCell ⟨p, 0, none⟩ a0).setCell ⟨p, 1, none⟩ a1) g v k e p #[a0, a1, b2, b3, b4, b5, b6, b7, b8, b9, b10, b11, b12, b13] T := h0.put 1 a1
  have h2 : Tp w (((W.setCell ⟨p, 0, none⟩ a0).setCell ⟨p, 1, none⟩ a1).setCell ⟨p, 2, none⟩ a2) g v k e p #[a0, a1, a2, b3, b4, b5, b6, b7, b8, b9, b10, b11, b12, b13] T := h1.put 2 a2
  have h3 : Tp w ((((W.setCell ⟨p, 0, none⟩ a0).setCell ⟨p, 1, none⟩ a1).setCell ⟨p, 2, none⟩ a2).setCell ⟨p, 3, none⟩ a3) g v k e p #[a0, a1, a2, a3, b4, b5, b6, b7, b8, b9, b10, b11, b12, b13] T := h2.put 3 a3
  have h4 : Tp w (((((W.setCell ⟨p, 0, none⟩ a0).setCell ⟨p, 1, none⟩ a1).setCell ⟨p, 2, none⟩ a2).setCell ⟨p, 3, none⟩ a3).setCell ⟨p, 4, none⟩ a4) g v k e p #[a0, a1, a2, a3, a4, b5, b6, b7, b8, b9, b10, b11, b12, b13] T := h3.put 4 a4
  have h5 : Tp w ((((((W.setCell ⟨p, 0, none⟩ a0).setCell ⟨p, 1, none⟩ a1).setCell ⟨p, 2, none⟩ a2).setCell ⟨p, 3, none⟩ a3).setCell ⟨p, 4, none⟩ a4).setCell ⟨p, 5, none⟩ a5) g v k e p #[a0, a1, a2, a3, a4, a5, b6, b7, b8, b9, b10, b11, b12, b13] T := h4.put 5 a5
  have h6 : Tp w (((((((W.setCell ⟨p, 0, none⟩ a0).setCell ⟨p, 1, none⟩ a1).setCell ⟨p, 2, none⟩ a2).setCell ⟨p, 3, none⟩ a3).setCell ⟨p, 4, none⟩ a4).setCell ⟨p, 5, none⟩ a5).setCell ⟨p, 6, none⟩ a6) g v k e p #[a0, a1, a2, a3, a4, a5, a6, b7, b8, b9, b10, b11, b12, b13] T := h5.put 6 a6
  have h7 : Tp w ((((((((W.setCell ⟨p, 0, none⟩ a0).setCell ⟨p, 1, none⟩ a1).setCell ⟨p, 2, none⟩ a2).setCell ⟨p, 3, none⟩ a3).setCell ⟨p, 4, none⟩ a4).setCell ⟨p, 5, none⟩ a5).setCell ⟨p, 6, none⟩ a6).setCell ⟨p, 7, none⟩ a7) g v k e p #[a0, a1, a2, a3, a4, a5, a6, a7, b8, b9, b10, b11, b12, b13] T := h6.put 7 a7
  have h8 : Tp w (((((((((W.setCell ⟨p, 0, none⟩ a0).setCell ⟨p, 1, none⟩ a1).setCell ⟨p, 2, none⟩ a2).setCell ⟨p, 3, none⟩ a3).setCell ⟨p, 4, none⟩ a4).setCell ⟨p, 5, none⟩ a5).setCell ⟨p, 6, none⟩ a6).setCell ⟨p, 7, none⟩ a7).setCell ⟨p, 8, none⟩ a8) g v k e p #[a0, a1, a2, a3, a4, a5, a6, a7, a8, b9, b10, b11, b12, b13] T := h7.put 8 a8
  have h9 : Tp w ((((((((((W.setCell ⟨p, 0, none⟩ a0).setCell ⟨p, 1, none⟩ a1).setCell ⟨p, 2, none⟩ a2).setCell ⟨p, 3, none⟩ a3).setCell ⟨p, 4, none⟩ a4).setCell ⟨p, 5, none⟩ a5).setCell ⟨p, 6, none⟩ a6).setCell ⟨p, 7, none⟩ a7).setCell ⟨p, 8, none⟩ a8).setCell ⟨p, 9, none⟩ a9) g v k e p #[a0, a1, a2, a3, a4, a5, a6, a7, a8, a9, b10, b11, b12, b13] T := h8.put 9 a9
  have h10 : Tp w (((((((((((W.setCell ⟨p, 0, none⟩ a0).setCell ⟨p, 1, none⟩ a1).setCell ⟨p, 2, none⟩ a2).setCell ⟨p, 3, none⟩ a3).setCell ⟨p, 4, none⟩ a4).setCell ⟨p, 5, none⟩ a5).setCell ⟨p, 6, none⟩ a6).setCell ⟨p, 7, none⟩ a7).setCell ⟨p, 8, none⟩ a8).setCell ⟨p, 9, none⟩ a9).setCell ⟨p, 10, none⟩ a10) g v k e p #[a0, a1, a2, a3, a4, a5, a6, a7, a8, a9, a10, b11, b12, b13] T := h9.put 10 a10
  have h11 : Tp w ((((((((((((W.setCell ⟨p, 0, none⟩ a0).setCell ⟨p, 1, none⟩ a1).setCell ⟨p, 2, none⟩ a2).setCell ⟨p, 3, none⟩ a3).setCell ⟨p, 4, none⟩ a4).setCell ⟨p, 5, none⟩ a5).setCell ⟨p, 6, none⟩ a6).setCell ⟨p, 7, none⟩ a7).setCell ⟨p, 8, none⟩ a8).setCell ⟨p, 9, none⟩ a9).setCell ⟨p, 10, none⟩ a10).setCell ⟨p, 11, none⟩ a11) g v k e p #[a0, a1, a2, a3, a4, a5, a6, a7, a8, a9, a10, a11, b12, b13] T := h10.put 11 a11
  have h12 : Tp w (((((((((((((W.setCell ⟨p, 0, none⟩ a0).setCell ⟨p, 1, none⟩ a1).setCell ⟨p, 2, none⟩ a2).setCell ⟨p, 3, none⟩ a3).setCell ⟨p, 4, none⟩ a4).setCell ⟨p, 5, none⟩ a5).setCell ⟨p, 6, none⟩ a6).setCell ⟨p, 7, none⟩ a7).setCell ⟨p, 8, none⟩ a8).setCell ⟨p, 9, none⟩ a9).setCell ⟨p, 10, none⟩ a10).setCell ⟨p, 11, none⟩ a11).setCell ⟨p, 12, none⟩ a12) g v k e p #[a0, a1, a2, a3, a4, a5, a6, a7, a8, a9, a10, a11, a12, b13] T := h11.put 12 a12
  have h13 : Tp w ((((((((((((((W.setCell ⟨p, 0, none⟩ a0).setCell ⟨p, 1, none⟩ a1).setCell ⟨p, 2, none⟩ a2).setCell ⟨p, 3, none⟩ a3).setCell ⟨p, 4, none⟩ a4).setCell ⟨p, 5, none⟩ a5).setCell ⟨p, 6, none⟩ a6).setCell ⟨p, 7, none⟩ a7).setCell ⟨p, 8, none⟩ a8).setCell ⟨p, 9, none⟩ a9).setCell ⟨p, 10, none⟩ a10).setCell ⟨p, 11, none⟩ a11).setCell ⟨p, 12, none⟩ a12).setCell ⟨p, 13, none⟩ a13) g v k e p #[a0, a1, a2, a3, a4, a5, a6, a7, a8, a9, a10, a11, a12, a13] T := h12.put 13 a13
  exact h13
set_option maxHeartbeats 4000000 in
theorem rchg_y (g k k1 k2 : Nat) (e e1 E : Int) (v : Value) (S1 : ByteArray) (K M D A C F : Int) (f0 : F ≠ 0) (w : World) (hs : Sk Ts w g v k e)
    (HM : Hid (∀ w, Sk Ts w g v k e → Calls Try.prog 37 #[.pointer (some ⟨g, 0, none⟩), .string ⟨#[44]⟩] w fun x w' => x = .returned (.tuple #[]) ∧ Mv Ts g v k1 e1 w w'))
    (HU : Hid (∀ w, Sk Ts w g v k1 e1 → Calls Try.prog 36 #[.pointer (some ⟨g, 0, none⟩), .int .u8 44] w fun x w' => x = .returned (.string S1) ∧ Mv Ts g v k2 e1 w w'))
    (HP : Hid (∀ w, Calls Try.prog 44 #[.string S1] w fun x w' => x = .returned (.tuple #[.agg #[.int .i64 K, .int .i64 M, .int .i64 D, .int .i64 A, .int .i64 C], ev 0]) ∧ Below w.heap.size w w'))
    : Calls Try.prog 22 #[.agg #[.pointer (some ⟨g, 0, none⟩)]] w fun x w' => x = .returned (.agg #[.int .i64 K, .int .i64 M, .int .i64 D, .int .i64 A, .int .i64 C]) ∧ Mv Ts g v k2 e1 w w' := by
  have q0 := fun op t W x k => guard_ev op t W x k
  have q2 := fun W k => neq_ev W k
  have t1 := ne_yes f0
  clear f0
  obtain ⟨W0, hW0⟩ : ∃ W0, W0 = w.alloc (.cells #[.pointer (some ⟨g, 0, none⟩)] 42) := ⟨_, rfl⟩
  have S0 : Tn w W0 g v k e := by rw [hW0]; exact Tn.new hs
  have S1' := Tp.new S0 (#[.int .i64 0, .int .i64 0, .int .i64 0, .int .i64 0, .int .i64 0] : Array Value) 24
  have hp0 : W0.heap.size = w.heap.size + 1 := by rw [hW0]; simp
  rw [hp0] at S1'
  obtain ⟨p, hpp⟩ : ∃ p, p = w.heap.size + 1 := ⟨_, rfl⟩
  obtain ⟨W1, hW1⟩ : ∃ W1, W1 = W0.alloc (.cells (#[.int .i64 0, .int .i64 0, .int .i64 0, .int .i64 0, .int .i64 0] : Array Value) 24) := ⟨_, rfl⟩
  rw [← hpp, ← hW1] at S1'
  have S := Lib.hid S1'
  have c0 := S.out.tn.see
  clear S1' hs S0 hp0
  go_enter Try.func22, Try.ntmps22
  go_upto_region 1 with fail
  rw [← hW0, ← hpp, ← hW1]; clear hW0 hW1 hpp
  go_upto_region 3 with (first
    | (go_at_call 37; with_reducible refine (HM.out _ S.out.tn.sk).mono ?_; rintro x w2 ⟨rfl, hm⟩; have S := Lib.hid (S.out.mv hm); clear hm; have c0 := S.out.tn.see)
    | (go_at_call 36; with_reducible refine (HU.out _ S.out.tn.sk).mono ?_; rintro x w3 ⟨rfl, hm⟩; have S := Lib.hid (S.out.mv hm); clear hm; have c0 := S.out.tn.see)
    | (go_at_call 44; with_reducible refine (HP.out _).mono ?_; rintro x w4 ⟨rfl, hb⟩; have S := Lib.hid (S.out.keep hb); clear hb; have c0 := S.out.tn.see))
  have S5 := Tq.new S.out #[.int .i64 K, .int .i64 M, .int .i64 D, .int .i64 A, .int .i64 C]
  obtain ⟨q, hq⟩ : ∃ q, q = w4.heap.size := ⟨_, rfl⟩
  obtain ⟨W5, hW5⟩ : ∃ W5, W5 = w4.alloc (.cells #[.int .i64 K, .int .i64 M, .int .i64 D, .int .i64 A, .int .i64 C] 24) := ⟨_, rfl⟩
  rw [← hq, ← hW5] at S5
  rw [← hq, ← hW5]
  have S := Lib.hid S5
  clear S5 hq hW5
  have c0 := S.out.tp.tn.see
  obtain ⟨d0, d1, d2, d3, d4, -⟩ := S.out.see5
  obtain ⟨x0, x1, x2, x3, x4, f0, f1, f2, f3, f4⟩ := S.out.tp.see5
  go_wp2_with fail
  have F := S.out.tp.all5 (.int .i64 K) (.int .i64 M) (.int .i64 D) (.int .i64 A) (.int .i64 C)
  show bodyPost _ _ _ _ _ (put17_5 W5 p (.int .i64 K) (.int .i64 M) (.int .i64 D) (.int .i64 A) (.int .i64 C))
  generalize put17_5 W5 p (.int .i64 K) (.int .i64 M) (.int .i64 D) (.int .i64 A) (.int .i64 C) = W9 at *
  obtain ⟨r0, r1, r2, r3, r4, -⟩ := F.see5
  refine bodyPost_ret (v := .agg #[.int .i64 K, .int .i64 M, .int .i64 D, .int .i64 A, .int .i64 C]) (by simp [results, Try.results22, go_sem, r0, r1, r2, r3, r4]) rfl ⟨rfl, F.tn.sk, F.tn.gb⟩
set_option maxHeartbeats 4000000 in
theorem rchg_n (g k k1 k2 : Nat) (e e1 E : Int) (v : Value) (S1 : ByteArray) (K M D A C F : Int) (f0 : F ≠ 0) (w : World) (hs : Sk Ts w g v k e)
    (HM : Hid (∀ w, Sk Ts w g v k e → Calls Try.prog 37 #[.pointer (some ⟨g, 0, none⟩), .string ⟨#[44]⟩] w fun x w' => x = .returned (.tuple #[]) ∧ Mv Ts g v k1 e1 w w'))
    (HU : Hid (∀ w, Sk Ts w g v k1 e1 → Calls Try.prog 36 #[.pointer (some ⟨g, 0, none⟩), .int .u8 44] w fun x w' => x = .returned (.string S1) ∧ Mv Ts g v k2 e1 w w'))
    (HP : Hid (∀ w, Calls Try.prog 44 #[.string S1] w fun x w' => x = .returned (.tuple #[.agg #[.int .i64 K, .int .i64 M, .int .i64 D, .int .i64 A, .int .i64 C], ev F]) ∧ Below w.heap.size w w'))
    (HF : Hid (∀ w, Sk Ts w g v k2 e1 → Calls Try.prog 39 #[.pointer (some ⟨g, 0, none⟩), ev F] w fun x w' => x = .returned (.tuple #[]) ∧ Mv Ts g v k2 E w w'))
    : Calls Try.prog 22 #[.agg #[.pointer (some ⟨g, 0, none⟩)]] w fun x w' => x = .returned (.agg #[.int .i64 K, .int .i64 M, .int .i64 D, .int .i64 A, .int .i64 C]) ∧ Mv Ts g v k2 E w w' := by
  have q0 := fun op t W x k => guard_ev op t W x k
  have q2 := fun W k => neq_ev W k
  have t1 := ne_yes f0
  clear f0
  obtain ⟨W0, hW0⟩ : ∃ W0, W0 = w.alloc (.cells #[.pointer (some ⟨g, 0, none⟩)] 42) := ⟨_, rfl⟩
  have S0 : Tn w W0 g v k e := by rw [hW0]; exact Tn.new hs
  have S1' := Tp.new S0 (#[.int .i64 0, .int .i64 0, .int .i64 0, .int .i64 0, .int .i64 0] : Array Value) 24
  have hp0 : W0.heap.size = w.heap.size + 1 := by rw [hW0]; simp
  rw [hp0] at S1'
  obtain ⟨p, hpp⟩ : ∃ p, p = w.heap.size + 1 := ⟨_, rfl⟩
  obtain ⟨W1, hW1⟩ : ∃ W1, W1 = W0.alloc (.cells (#[.int .i64 0, .int .i64 0, .int .i64 0, .int .i64 0, .int .i64 0] : Array Value) 24) := ⟨_, rfl⟩
  rw [← hpp, ← hW1] at S1'
  have S := Lib.hid S1'
  have c0 := S.out.tn.see
  clear S1' hs S0 hp0
  go_enter Try.func22, Try.ntmps22
  go_upto_region 1 with fail
  rw [← hW0, ← hpp, ← hW1]; clear hW0 hW1 hpp
  go_upto_region 3 with (first
    | (go_at_call 37; with_reducible refine (HM.out _ S.out.tn.sk).mono ?_; rintro x w2 ⟨rfl, hm⟩; have S := Lib.hid (S.out.mv hm); clear hm; have c0 := S.out.tn.see)
    | (go_at_call 36; with_reducible refine (HU.out _ S.out.tn.sk).mono ?_; rintro x w3 ⟨rfl, hm⟩; have S := Lib.hid (S.out.mv hm); clear hm; have c0 := S.out.tn.see)
    | (go_at_call 44; with_reducible refine (HP.out _).mono ?_; rintro x w4 ⟨rfl, hb⟩; have S := Lib.hid (S.out.keep hb); clear hb; have c0 := S.out.tn.see))
  have S5 := Tq.new S.out #[.int .i64 K, .int .i64 M, .int .i64 D, .int .i64 A, .int .i64 C]
  obtain ⟨q, hq⟩ : ∃ q, q = w4.heap.size := ⟨_, rfl⟩
  obtain ⟨W5, hW5⟩ : ∃ W5, W5 = w4.alloc (.cells #[.int .i64 K, .int .i64 M, .int .i64 D, .int .i64 A, .int .i64 C] 24) := ⟨_, rfl⟩
  rw [← hq, ← hW5] at S5
  rw [← hq, ← hW5]
  have S := Lib.hid S5
  clear S5 hq hW5
  have c0 := S.out.tp.tn.see
  obtain ⟨d0, d1, d2, d3, d4, -⟩ := S.out.see5
  obtain ⟨x0, x1, x2, x3, x4, f0, f1, f2, f3, f4⟩ := S.out.tp.see5
  go_wp2_with (go_at_call 39; with_reducible refine (HF.out _ S.out.tp.tn.sk).mono ?_; rintro x w6 ⟨rfl, hm⟩; have S := Lib.hid (S.out.mv hm); clear hm; have c0 := S.out.tp.tn.see; obtain ⟨d0, d1, d2, d3, d4, -⟩ := S.out.see5; obtain ⟨x0, x1, x2, x3, x4, f0, f1, f2, f3, f4⟩ := S.out.tp.see5)
  have F := S.out.tp.all5 (.int .i64 K) (.int .i64 M) (.int .i64 D) (.int .i64 A) (.int .i64 C)
  show bodyPost _ _ _ _ _ (put17_5 w6 p (.int .i64 K) (.int .i64 M) (.int .i64 D) (.int .i64 A) (.int .i64 C))
  generalize put17_5 w6 p (.int .i64 K) (.int .i64 M) (.int .i64 D) (.int .i64 A) (.int .i64 C) = W9 at *
  obtain ⟨r0, r1, r2, r3, r4, -⟩ := F.see5
  refine bodyPost_ret (v := .agg #[.int .i64 K, .int .i64 M, .int .i64 D, .int .i64 A, .int .i64 C]) (by simp [results, Try.results22, go_sem, r0, r1, r2, r3, r4]) rfl ⟨rfl, F.tn.sk, F.tn.gb⟩
set_option maxRecDepth 100000 in
set_option maxHeartbeats 4000000 in
theorem rplan_s (g k1 k2 k3 k4 k5 k6 m : Nat) (e1 e2 e3 e4 e5 e6 : Int) (v : Value) (N1 N2 : ByteArray) (o a K M D A C K2 M2 D2 A2 C2 : Int) (hm : ((m : Int) == 0) = true) (w : World) (hs : Sk Ts w g v 0 0)
    (HN1 : Hid (∀ w, Sk Ts w g v 0 0 → Calls Try.prog 18 #[.agg #[.pointer (some ⟨g, 0, none⟩)]] w fun x w' => x = .returned (.string N1) ∧ Mv Ts g v k1 e1 w w'))
    (HO : Hid (∀ w, Sk Ts w g v k1 e1 → Calls Try.prog 19 #[.agg #[.pointer (some ⟨g, 0, none⟩)]] w fun x w' => x = .returned (.int .i64 o) ∧ Mv Ts g v k2 e2 w w'))
    (HL : Hid (∀ w, Sk Ts w g v k2 e2 → Calls Try.prog 20 #[.pointer (some ⟨g, 0, none⟩)] w fun x w' => x = .returned (.int .i64 (m : Int)) ∧ ∃ n, w' = w.drewN n))
    : Calls Try.prog 10 #[.agg #[.pointer (some ⟨g, 0, none⟩)]] w fun x w' => x = .returned (.agg #[.string N1, .string ⟨#[]⟩, .int .i64 o, .int .i64 0, .int .i64 0, .int .i64 0, .int .i64 0, .int .i64 0, .int .i64 0, .int .i64 0, .int .i64 0, .int .i64 0, .int .i64 0, .int .i64 0]) ∧ Mv Ts g v k2 e2 w w' := by
  obtain ⟨W0, hW0⟩ : ∃ W0, W0 = w.alloc (.cells #[.pointer (some ⟨g, 0, none⟩)] 42) := ⟨_, rfl⟩
  have S0 : Tn w W0 g v 0 0 := by rw [hW0]; exact Tn.new hs
  have S1' := Tp.new S0 (#[.string ⟨#[]⟩, .string ⟨#[]⟩, .int .i64 0, .int .i64 0, .int .i64 0, .int .i64 0, .int .i64 0, .int .i64 0, .int .i64 0, .int .i64 0, .int .i64 0, .int .i64 0, .int .i64 0, .int .i64 0] : Array Value) 26
  have hp0 : W0.heap.size = w.heap.size + 1 := by rw [hW0]; simp
  rw [hp0] at S1'
  obtain ⟨p, hpp⟩ : ∃ p, p = w.heap.size + 1 := ⟨_, rfl⟩
  obtain ⟨W1, hW1⟩ : ∃ W1, W1 = W0.alloc (.cells (#[.string ⟨#[]⟩, .string ⟨#[]⟩, .int .i64 0, .int .i64 0, .int .i64 0, .int .i64 0, .int .i64 0, .int .i64 0, .int .i64 0, .int .i64 0, .int .i64 0, .int .i64 0, .int .i64 0, .int .i64 0] : Array Value) 26) := ⟨_, rfl⟩
  rw [← hpp, ← hW1] at S1'
  have S2' := Tq.new S1' (#[.string ⟨#[]⟩, .string ⟨#[]⟩, .int .i64 0, .int .i64 0, .int .i64 0, .int .i64 0, .int .i64 0, .int .i64 0, .int .i64 0, .int .i64 0, .int .i64 0, .int .i64 0, .int .i64 0, .int .i64 0] : Array Value)
  obtain ⟨q, hqq⟩ : ∃ q, q = W1.heap.size := ⟨_, rfl⟩
  obtain ⟨W2, hW2⟩ : ∃ W2, W2 = W1.alloc (.cells (#[.string ⟨#[]⟩, .string ⟨#[]⟩, .int .i64 0, .int .i64 0, .int .i64 0, .int .i64 0, .int .i64 0, .int .i64 0, .int .i64 0, .int .i64 0, .int .i64 0, .int .i64 0, .int .i64 0, .int .i64 0] : Array Value) 26) := ⟨_, rfl⟩
  rw [← hqq, ← hW2] at S2'
  have S := Lib.hid S2'
  clear S1' S2' hs S0 hp0
  go_enter Try.func10, Try.ntmps10
  go_upto_region 1 with fail
  rw [← hW0, ← hpp, ← hW1]; clear hW0 hW1 hpp
  go_upto_region 2 with fail
  rw [← hqq, ← hW2]; clear hW2 hqq
  have c0 := S.out.tp.tn.see
  obtain ⟨d0, d1, d2, d3, d4, d5, d6, d7, d8, d9, d10, d11, d12, d13, f0, f1, f2, f3, f4, f5, f6, f7, f8, f9, f10, f11, f12, f13⟩ := S.out.see14
  go_upto_region 3 with (go_at_call 18; with_reducible refine (HN1.out _ S.out.tp.tn.sk).mono ?_; rintro x w3 ⟨rfl, hm⟩; have S := Lib.hid (S.out.mv hm); clear hm; have c0 := S.out.tp.tn.see; obtain ⟨d0, d1, d2, d3, d4, d5, d6, d7, d8, d9, d10, d11, d12, d13, f0, f1, f2, f3, f4, f5, f6, f7, f8, f9, f10, f11, f12, f13⟩ := S.out.see14; have S := Lib.hid (S.out.set 0 (.string N1)))
  obtain ⟨W3, hW3⟩ : ∃ W9, W9 = w3.setCell ⟨q, 0, none⟩ (.string N1) := ⟨_, rfl⟩
  have S9 : Tq w (w3.setCell ⟨q, 0, none⟩ (.string N1)) g v k1 e1 p (#[.string ⟨#[]⟩, .string ⟨#[]⟩, .int .i64 0, .int .i64 0, .int .i64 0, .int .i64 0, .int .i64 0, .int .i64 0, .int .i64 0, .int .i64 0, .int .i64 0, .int .i64 0, .int .i64 0, .int .i64 0] : Array Value) 26 q #[.string N1, .string ⟨#[]⟩, .int .i64 0, .int .i64 0, .int .i64 0, .int .i64 0, .int .i64 0, .int .i64 0, .int .i64 0, .int .i64 0, .int .i64 0, .int .i64 0, .int .i64 0, .int .i64 0] := S.out
  rw [← hW3] at S9
  rw [← hW3]
  replace S := Lib.hid S9
  clear S9 hW3
  have c0 := S.out.tp.tn.see
  obtain ⟨d0, d1, d2, d3, d4, d5, d6, d7, d8, d9, d10, d11, d12, d13, f0, f1, f2, f3, f4, f5, f6, f7, f8, f9, f10, f11, f12, f13⟩ := S.out.see14
  go_upto_region 4 with (go_at_call 19; with_reducible refine (HO.out _ S.out.tp.tn.sk).mono ?_; rintro x w4 ⟨rfl, hm⟩; have S := Lib.hid (S.out.mv hm); clear hm; have c0 := S.out.tp.tn.see; obtain ⟨d0, d1, d2, d3, d4, d5, d6, d7, d8, d9, d10, d11, d12, d13, f0, f1, f2, f3, f4, f5, f6, f7, f8, f9, f10, f11, f12, f13⟩ := S.out.see14; have S := Lib.hid (S.out.set 2 (.int .i64 o)))
  obtain ⟨W4, hW4⟩ : ∃ W9, W9 = w4.setCell ⟨q, 2, none⟩ (.int .i64 o) := ⟨_, rfl⟩
  have S9 : Tq w (w4.setCell ⟨q, 2, none⟩ (.int .i64 o)) g v k2 e2 p (#[.string ⟨#[]⟩, .string ⟨#[]⟩, .int .i64 0, .int .i64 0, .int .i64 0, .int .i64 0, .int .i64 0, .int .i64 0, .int .i64 0, .int .i64 0, .int .i64 0, .int .i64 0, .int .i64 0, .int .i64 0] : Array Value) 26 q #[.string N1, .string ⟨#[]⟩, .int .i64 o, .int .i64 0, .int .i64 0, .int .i64 0, .int .i64 0, .int .i64 0, .int .i64 0, .int .i64 0, .int .i64 0, .int .i64 0, .int .i64 0, .int .i64 0] := S.out
  rw [← hW4] at S9
  rw [← hW4]
  replace S := Lib.hid S9
  clear S9 hW4
  have c0 := S.out.tp.tn.see
  obtain ⟨d0, d1, d2, d3, d4, d5, d6, d7, d8, d9, d10, d11, d12, d13, f0, f1, f2, f3, f4, f5, f6, f7, f8, f9, f10, f11, f12, f13⟩ := S.out.see14
  go_upto_region 5 with (go_at_call 20; with_reducible refine (HL.out _ S.out.tp.tn.sk).mono ?_; rintro x w5 ⟨rfl, n, rfl⟩; have S := Lib.hid (S.out.drew n); have c0 := S.out.tp.tn.see; obtain ⟨d0, d1, d2, d3, d4, d5, d6, d7, d8, d9, d10, d11, d12, d13, f0, f1, f2, f3, f4, f5, f6, f7, f8, f9, f10, f11, f12, f13⟩ := S.out.see14)
  obtain ⟨W5, hW5⟩ : ∃ W9, W9 = W4.drewN n := ⟨_, rfl⟩
  have S9 : Tq w (W4.drewN n) g v k2 e2 p (#[.string ⟨#[]⟩, .string ⟨#[]⟩, .int .i64 0, .int .i64 0, .int .i64 0, .int .i64 0, .int .i64 0, .int .i64 0, .int .i64 0, .int .i64 0, .int .i64 0, .int .i64 0, .int .i64 0, .int .i64 0] : Array Value) 26 q #[.string N1, .string ⟨#[]⟩, .int .i64 o, .int .i64 0, .int .i64 0, .int .i64 0, .int .i64 0, .int .i64 0, .int .i64 0, .int .i64 0, .int .i64 0, .int .i64 0, .int .i64 0, .int .i64 0] := S.out
  rw [← hW5] at S9
  rw [← hW5]
  replace S := Lib.hid S9
  clear S9 hW5
  have c0 := S.out.tp.tn.see
  obtain ⟨d0, d1, d2, d3, d4, d5, d6, d7, d8, d9, d10, d11, d12, d13, f0, f1, f2, f3, f4, f5, f6, f7, f8, f9, f10, f11, f12, f13⟩ := S.out.see14
  obtain ⟨x0, x1, x2, x3, x4, x5, x6, x7, x8, x9, x10, x11, x12, x13, g0, g1, g2, g3, g4, g5, g6, g7, g8, g9, g10, g11, g12, g13⟩ := S.out.tp.see14
  go_wp2_with fail
  have F := S.out.tp.all14 (.string N1) (.string ⟨#[]⟩) (.int .i64 o) (.int .i64 0) (.int .i64 0) (.int .i64 0) (.int .i64 0) (.int .i64 0) (.int .i64 0) (.int .i64 0) (.int .i64 0) (.int .i64 0) (.int .i64 0) (.int .i64 0)
  show bodyPost _ _ _ _ _ (put17_14 W5 p (.string N1) (.string ⟨#[]⟩) (.int .i64 o) (.int .i64 0) (.int .i64 0) (.int .i64 0) (.int .i64 0) (.int .i64 0) (.int .i64 0) (.int .i64 0) (.int .i64 0) (.int .i64 0) (.int .i64 0) (.int .i64 0))
  generalize put17_14 W5 p (.string N1) (.string ⟨#[]⟩) (.int .i64 o) (.int .i64 0) (.int .i64 0) (.int .i64 0) (.int .i64 0) (.int .i64 0) (.int .i64 0) (.int .i64 0) (.int .i64 0) (.int .i64 0) (.int .i64 0) (.int .i64 0) = W99 at *
  obtain ⟨r0, r1, r2, r3, r4, r5, r6, r7, r8, r9, r10, r11, r12, r13, -⟩ := F.see14
  refine bodyPost_ret (v := .agg #[.string N1, .string ⟨#[]⟩, .int .i64 o, .int .i64 0, .int .i64 0, .int .i64 0, .int .i64 0, .int .i64 0, .int .i64 0, .int .i64 0, .int .i64 0, .int .i64 0, .int .i64 0, .int .i64 0]) (by simp [results, Try.results10, go_sem, r0, r1, r2, r3, r4, r5, r6, r7, r8, r9, r10, r11, r12, r13]) rfl ⟨rfl, F.tn.sk, F.tn.gb⟩
set_option maxRecDepth 100000 in
set_option maxHeartbeats 4000000 in
theorem rplan_l (g k1 k2 k3 k4 k5 k6 m : Nat) (e1 e2 e3 e4 e5 e6 : Int) (v : Value) (N1 N2 : ByteArray) (o a K M D A C K2 M2 D2 A2 C2 : Int) (hm : ((m : Int) == 0) = false) (w : World) (hs : Sk Ts w g v 0 0)
    (HN1 : Hid (∀ w, Sk Ts w g v 0 0 → Calls Try.prog 18 #[.agg #[.pointer (some ⟨g, 0, none⟩)]] w fun x w' => x = .returned (.string N1) ∧ Mv Ts g v k1 e1 w w'))
    (HO : Hid (∀ w, Sk Ts w g v k1 e1 → Calls Try.prog 19 #[.agg #[.pointer (some ⟨g, 0, none⟩)]] w fun x w' => x = .returned (.int .i64 o) ∧ Mv Ts g v k2 e2 w w'))
    (HL : Hid (∀ w, Sk Ts w g v k2 e2 → Calls Try.prog 20 #[.pointer (some ⟨g, 0, none⟩)] w fun x w' => x = .returned (.int .i64 (m : Int)) ∧ ∃ n, w' = w.drewN n))
    (HN2 : Hid (∀ w, Sk Ts w g v k2 e2 → Calls Try.prog 18 #[.agg #[.pointer (some ⟨g, 0, none⟩)]] w fun x w' => x = .returned (.string N2) ∧ Mv Ts g v k3 e3 w w'))
    (HA : Hid (∀ w, Sk Ts w g v k3 e3 → Calls Try.prog 21 #[.agg #[.pointer (some ⟨g, 0, none⟩)], .int .i64 o] w fun x w' => x = .returned (.int .i64 a) ∧ Mv Ts g v k4 e4 w w'))
    (HC1 : Hid (∀ w, Sk Ts w g v k4 e4 → Calls Try.prog 22 #[.agg #[.pointer (some ⟨g, 0, none⟩)]] w fun x w' => x = .returned (.agg #[.int .i64 K, .int .i64 M, .int .i64 D, .int .i64 A, .int .i64 C]) ∧ Mv Ts g v k5 e5 w w'))
    (HC2 : Hid (∀ w, Sk Ts w g v k5 e5 → Calls Try.prog 22 #[.agg #[.pointer (some ⟨g, 0, none⟩)]] w fun x w' => x = .returned (.agg #[.int .i64 K2, .int .i64 M2, .int .i64 D2, .int .i64 A2, .int .i64 C2]) ∧ Mv Ts g v k6 e6 w w'))
    : Calls Try.prog 10 #[.agg #[.pointer (some ⟨g, 0, none⟩)]] w fun x w' => x = .returned (.agg #[.string N1, .string N2, .int .i64 o, .int .i64 a, .int .i64 K, .int .i64 M, .int .i64 D, .int .i64 A, .int .i64 C, .int .i64 K2, .int .i64 M2, .int .i64 D2, .int .i64 A2, .int .i64 C2]) ∧ Mv Ts g v k6 e6 w w' := by
  obtain ⟨W0, hW0⟩ : ∃ W0, W0 = w.alloc (.cells #[.pointer (some ⟨g, 0, none⟩)] 42) := ⟨_, rfl⟩
  have S0 : Tn w W0 g v 0 0 := by rw [hW0]; exact Tn.new hs
  have S1' := Tp.new S0 (#[.string ⟨#[]⟩, .string ⟨#[]⟩, .int .i64 0, .int .i64 0, .int .i64 0, .int .i64 0, .int .i64 0, .int .i64 0, .int .i64 0, .int .i64 0, .int .i64 0, .int .i64 0, .int .i64 0, .int .i64 0] : Array Value) 26
  have hp0 : W0.heap.size = w.heap.size + 1 := by rw [hW0]; simp
  rw [hp0] at S1'
  obtain ⟨p, hpp⟩ : ∃ p, p = w.heap.size + 1 := ⟨_, rfl⟩
  obtain ⟨W1, hW1⟩ : ∃ W1, W1 = W0.alloc (.cells (#[.string ⟨#[]⟩, .string ⟨#[]⟩, .int .i64 0, .int .i64 0, .int .i64 0, .int .i64 0, .int .i64 0, .int .i64 0, .int .i64 0, .int .i64 0, .int .i64 0, .int .i64 0, .int .i64 0, .int .i64 0] : Array Value) 26) := ⟨_, rfl⟩
  rw [← hpp, ← hW1] at S1'
  have S2' := Tq.new S1' (#[.string ⟨#[]⟩, .string ⟨#[]⟩, .int .i64 0, .int .i64 0, .int .i64 0, .int .i64 0, .int .i64 0, .int .i64 0, .int .i64 0, .int .i64 0, .int .i64 0, .int .i64 0, .int .i64 0, .int .i64 0] : Array Value)
  obtain ⟨q, hqq⟩ : ∃ q, q = W1.heap.size := ⟨_, rfl⟩
  obtain ⟨W2, hW2⟩ : ∃ W2, W2 = W1.alloc (.cells (#[.string ⟨#[]⟩, .string ⟨#[]⟩, .int .i64 0, .int .i64 0, .int .i64 0, .int .i64 0, .int .i64 0, .int .i64 0, .int .i64 0, .int .i64 0, .int .i64 0, .int .i64 0, .int .i64 0, .int .i64 0] : Array Value) 26) := ⟨_, rfl⟩
  rw [← hqq, ← hW2] at S2'
  have S := Lib.hid S2'
  clear S1' S2' hs S0 hp0
  go_enter Try.func10, Try.ntmps10
  go_upto_region 1 with fail
  rw [← hW0, ← hpp, ← hW1]; clear hW0 hW1 hpp
  go_upto_region 2 with fail
  rw [← hqq, ← hW2]; clear hW2 hqq
  have c0 := S.out.tp.tn.see
  obtain ⟨d0, d1, d2, d3, d4, d5, d6, d7, d8, d9, d10, d11, d12, d13, f0, f1, f2, f3, f4, f5, f6, f7, f8, f9, f10, f11, f12, f13⟩ := S.out.see14
  go_upto_region 3 with (go_at_call 18; with_reducible refine (HN1.out _ S.out.tp.tn.sk).mono ?_; rintro x w3 ⟨rfl, hm⟩; have S := Lib.hid (S.out.mv hm); clear hm; have c0 := S.out.tp.tn.see; obtain ⟨d0, d1, d2, d3, d4, d5, d6, d7, d8, d9, d10, d11, d12, d13, f0, f1, f2, f3, f4, f5, f6, f7, f8, f9, f10, f11, f12, f13⟩ := S.out.see14; have S := Lib.hid (S.out.set 0 (.string N1)))
  obtain ⟨W3, hW3⟩ : ∃ W9, W9 = w3.setCell ⟨q, 0, none⟩ (.string N1) := ⟨_, rfl⟩
  have S9 : Tq w (w3.setCell ⟨q, 0, none⟩ (.string N1)) g v k1 e1 p (#[.string ⟨#[]⟩, .string ⟨#[]⟩, .int .i64 0, .int .i64 0, .int .i64 0, .int .i64 0, .int .i64 0, .int .i64 0, .int .i64 0, .int .i64 0, .int .i64 0, .int .i64 0, .int .i64 0, .int .i64 0] : Array Value) 26 q #[.string N1, .string ⟨#[]⟩, .int .i64 0, .int .i64 0, .int .i64 0, .int .i64 0, .int .i64 0, .int .i64 0, .int .i64 0, .int .i64 0, .int .i64 0, .int .i64 0, .int .i64 0, .int .i64 0] := S.out
  rw [← hW3] at S9
  rw [← hW3]
  replace S := Lib.hid S9
  clear S9 hW3
  have c0 := S.out.tp.tn.see
  obtain ⟨d0, d1, d2, d3, d4, d5, d6, d7, d8, d9, d10, d11, d12, d13, f0, f1, f2, f3, f4, f5, f6, f7, f8, f9, f10, f11, f12, f13⟩ := S.out.see14
  go_upto_region 4 with (go_at_call 19; with_reducible refine (HO.out _ S.out.tp.tn.sk).mono ?_; rintro x w4 ⟨rfl, hm⟩; have S := Lib.hid (S.out.mv hm); clear hm; have c0 := S.out.tp.tn.see; obtain ⟨d0, d1, d2, d3, d4, d5, d6, d7, d8, d9, d10, d11, d12, d13, f0, f1, f2, f3, f4, f5, f6, f7, f8, f9, f10, f11, f12, f13⟩ := S.out.see14; have S := Lib.hid (S.out.set 2 (.int .i64 o)))
  obtain ⟨W4, hW4⟩ : ∃ W9, W9 = w4.setCell ⟨q, 2, none⟩ (.int .i64 o) := ⟨_, rfl⟩
  have S9 : Tq w (w4.setCell ⟨q, 2, none⟩ (.int .i64 o)) g v k2 e2 p (#[.string ⟨#[]⟩, .string ⟨#[]⟩, .int .i64 0, .int .i64 0, .int .i64 0, .int .i64 0, .int .i64 0, .int .i64 0, .int .i64 0, .int .i64 0, .int .i64 0, .int .i64 0, .int .i64 0, .int .i64 0] : Array Value) 26 q #[.string N1, .string ⟨#[]⟩, .int .i64 o, .int .i64 0, .int .i64 0, .int .i64 0, .int .i64 0, .int .i64 0, .int .i64 0, .int .i64 0, .int .i64 0, .int .i64 0, .int .i64 0, .int .i64 0] := S.out
  rw [← hW4] at S9
  rw [← hW4]
  replace S := Lib.hid S9
  clear S9 hW4
  have c0 := S.out.tp.tn.see
  obtain ⟨d0, d1, d2, d3, d4, d5, d6, d7, d8, d9, d10, d11, d12, d13, f0, f1, f2, f3, f4, f5, f6, f7, f8, f9, f10, f11, f12, f13⟩ := S.out.see14
  go_upto_region 6 with (go_at_call 20; with_reducible refine (HL.out _ S.out.tp.tn.sk).mono ?_; rintro x w5 ⟨rfl, n, rfl⟩; have S := Lib.hid (S.out.drew n); have c0 := S.out.tp.tn.see; obtain ⟨d0, d1, d2, d3, d4, d5, d6, d7, d8, d9, d10, d11, d12, d13, f0, f1, f2, f3, f4, f5, f6, f7, f8, f9, f10, f11, f12, f13⟩ := S.out.see14)
  obtain ⟨W5, hW5⟩ : ∃ W9, W9 = W4.drewN n := ⟨_, rfl⟩
  have S9 : Tq w (W4.drewN n) g v k2 e2 p (#[.string ⟨#[]⟩, .string ⟨#[]⟩, .int .i64 0, .int .i64 0, .int .i64 0, .int .i64 0, .int .i64 0, .int .i64 0, .int .i64 0, .int .i64 0, .int .i64 0, .int .i64 0, .int .i64 0, .int .i64 0] : Array Value) 26 q #[.string N1, .string ⟨#[]⟩, .int .i64 o, .int .i64 0, .int .i64 0, .int .i64 0, .int .i64 0, .int .i64 0, .int .i64 0, .int .i64 0, .int .i64 0, .int .i64 0, .int .i64 0, .int .i64 0] := S.out
  rw [← hW5] at S9
  rw [← hW5]
  replace S := Lib.hid S9
  clear S9 hW5
  have c0 := S.out.tp.tn.see
  obtain ⟨d0, d1, d2, d3, d4, d5, d6, d7, d8, d9, d10, d11, d12, d13, f0, f1, f2, f3, f4, f5, f6, f7, f8, f9, f10, f11, f12, f13⟩ := S.out.see14
  go_upto_region 7 with (go_at_call 18; with_reducible refine (HN2.out _ S.out.tp.tn.sk).mono ?_; rintro x w6 ⟨rfl, hm⟩; have S := Lib.hid (S.out.mv hm); clear hm; have c0 := S.out.tp.tn.see; obtain ⟨d0, d1, d2, d3, d4, d5, d6, d7, d8, d9, d10, d11, d12, d13, f0, f1, f2, f3, f4, f5, f6, f7, f8, f9, f10, f11, f12, f13⟩ := S.out.see14; have S := Lib.hid (S.out.set 1 (.string N2)))
  obtain ⟨W6, hW6⟩ : ∃ W9, W9 = w6.setCell ⟨q, 1, none⟩ (.string N2) := ⟨_, rfl⟩
  have S9 : Tq w (w6.setCell ⟨q, 1, none⟩ (.string N2)) g v k3 e3 p (#[.string ⟨#[]⟩, .string ⟨#[]⟩, .int .i64 0, .int .i64 0, .int .i64 0, .int .i64 0, .int .i64 0, .int .i64 0, .int .i64 0, .int .i64 0, .int .i64 0, .int .i64 0, .int .i64 0, .int .i64 0] : Array Value) 26 q #[.string N1, .string N2, .int .i64 o, .int .i64 0, .int .i64 0, .int .i64 0, .int .i64 0, .int .i64 0, .int .i64 0, .int .i64 0, .int .i64 0, .int .i64 0, .int .i64 0, .int .i64 0] := S.out
  rw [← hW6] at S9
  rw [← hW6]
  replace S := Lib.hid S9
  clear S9 hW6
  have c0 := S.out.tp.tn.see
  obtain ⟨d0, d1, d2, d3, d4, d5, d6, d7, d8, d9, d10, d11, d12, d13, f0, f1, f2, f3, f4, f5, f6, f7, f8, f9, f10, f11, f12, f13⟩ := S.out.see14
  go_upto_region 8 with (go_at_call 21; with_reducible refine (HA.out _ S.out.tp.tn.sk).mono ?_; rintro x w7 ⟨rfl, hm⟩; have S := Lib.hid (S.out.mv hm); clear hm; have c0 := S.out.tp.tn.see; obtain ⟨d0, d1, d2, d3, d4, d5, d6, d7, d8, d9, d10, d11, d12, d13, f0, f1, f2, f3, f4, f5, f6, f7, f8, f9, f10, f11, f12, f13⟩ := S.out.see14; have S := Lib.hid (S.out.set 3 (.int .i64 a)))
  obtain ⟨W7, hW7⟩ : ∃ W9, W9 = w7.setCell ⟨q, 3, none⟩ (.int .i64 a) := ⟨_, rfl⟩
  have S9 : Tq w (w7.setCell ⟨q, 3, none⟩ (.int .i64 a)) g v k4 e4 p (#[.string ⟨#[]⟩, .string ⟨#[]⟩, .int .i64 0, .int .i64 0, .int .i64 0, .int .i64 0, .int .i64 0, .int .i64 0, .int .i64 0, .int .i64 0, .int .i64 0, .int .i64 0, .int .i64 0, .int .i64 0] : Array Value) 26 q #[.string N1, .string N2, .int .i64 o, .int .i64 a, .int .i64 0, .int .i64 0, .int .i64 0, .int .i64 0, .int .i64 0, .int .i64 0, .int .i64 0, .int .i64 0, .int .i64 0, .int .i64 0] := S.out
  rw [← hW7] at S9
  rw [← hW7]
  replace S := Lib.hid S9
  clear S9 hW7
  have c0 := S.out.tp.tn.see
  obtain ⟨d0, d1, d2, d3, d4, d5, d6, d7, d8, d9, d10, d11, d12, d13, f0, f1, f2, f3, f4, f5, f6, f7, f8, f9, f10, f11, f12, f13⟩ := S.out.see14
  go_upto_region 9 with (go_at_call 22; with_reducible refine (HC1.out _ S.out.tp.tn.sk).mono ?_; rintro x w8 ⟨rfl, hm⟩; have S := Lib.hid (S.out.mv hm); clear hm; have c0 := S.out.tp.tn.see; obtain ⟨d0, d1, d2, d3, d4, d5, d6, d7, d8, d9, d10, d11, d12, d13, f0, f1, f2, f3, f4, f5, f6, f7, f8, f9, f10, f11, f12, f13⟩ := S.out.see14; have S := Lib.hid (S.out.set 4 (.int .i64 K)); have S := Lib.hid (S.out.set 5 (.int .i64 M)); have S := Lib.hid (S.out.set 6 (.int .i64 D)); have S := Lib.hid (S.out.set 7 (.int .i64 A)); have S := Lib.hid (S.out.set 8 (.int .i64 C)))
  obtain ⟨W8, hW8⟩ : ∃ W9, W9 = ((((w8.setCell ⟨q, 4, none⟩ (.int .i64 K)).setCell ⟨q, 5, none⟩ (.int .i64 M)).setCell ⟨q, 6, none⟩ (.int .i64 D)).setCell ⟨q, 7, none⟩ (.int .i64 A)).setCell ⟨q, 8, none⟩ (.int .i64 C) := ⟨_, rfl⟩
  have S9 : Tq w (((((w8.setCell ⟨q, 4, none⟩ (.int .i64 K)).setCell ⟨q, 5, none⟩ (.int .i64 M)).setCell ⟨q, 6, none⟩ (.int .i64 D)).setCell ⟨q, 7, none⟩ (.int .i64 A)).setCell ⟨q, 8, none⟩ (.int .i64 C)) g v k5 e5 p (#[.string ⟨#[]⟩, .string ⟨#[]⟩, .int .i64 0, .int .i64 0, .int .i64 0, .int .i64 0, .int .i64 0, .int .i64 0, .int .i64 0, .int .i64 0, .int .i64 0, .int .i64 0, .int .i64 0, .int .i64 0] : Array Value) 26 q #[.string N1, .string N2, .int .i64 o, .int .i64 a, .int .i64 K, .int .i64 M, .int .i64 D, .int .i64 A, .int .i64 C, .int .i64 0, .int .i64 0, .int .i64 0, .int .i64 0, .int .i64 0] := S.out
  rw [← hW8] at S9
  rw [← hW8]
  replace S := Lib.hid S9
  clear S9 hW8
  have c0 := S.out.tp.tn.see
  obtain ⟨d0, d1, d2, d3, d4, d5, d6, d7, d8, d9, d10, d11, d12, d13, f0, f1, f2, f3, f4, f5, f6, f7, f8, f9, f10, f11, f12, f13⟩ := S.out.see14
  go_upto_region 10 with (go_at_call 22; with_reducible refine (HC2.out _ S.out.tp.tn.sk).mono ?_; rintro x w9 ⟨rfl, hm⟩; have S := Lib.hid (S.out.mv hm); clear hm; have c0 := S.out.tp.tn.see; obtain ⟨d0, d1, d2, d3, d4, d5, d6, d7, d8, d9, d10, d11, d12, d13, f0, f1, f2, f3, f4, f5, f6, f7, f8, f9, f10, f11, f12, f13⟩ := S.out.see14; have S := Lib.hid (S.out.set 9 (.int .i64 K2)); have S := Lib.hid (S.out.set 10 (.int .i64 M2)); have S := Lib.hid (S.out.set 11 (.int .i64 D2)); have S := Lib.hid (S.out.set 12 (.int .i64 A2)); have S := Lib.hid (S.out.set 13 (.int .i64 C2)))
  obtain ⟨W9, hW9⟩ : ∃ W9, W9 = ((((w9.setCell ⟨q, 9, none⟩ (.int .i64 K2)).setCell ⟨q, 10, none⟩ (.int .i64 M2)).setCell ⟨q, 11, none⟩ (.int .i64 D2)).setCell ⟨q, 12, none⟩ (.int .i64 A2)).setCell ⟨q, 13, none⟩ (.int .i64 C2) := ⟨_, rfl⟩
  have S9 : Tq w (((((w9.setCell ⟨q, 9, none⟩ (.int .i64 K2)).setCell ⟨q, 10, none⟩ (.int .i64 M2)).setCell ⟨q, 11, none⟩ (.int .i64 D2)).setCell ⟨q, 12, none⟩ (.int .i64 A2)).setCell ⟨q, 13, none⟩ (.int .i64 C2)) g v k6 e6 p (#[.string ⟨#[]⟩, .string ⟨#[]⟩, .int .i64 0, .int .i64 0, .int .i64 0, .int .i64 0, .int .i64 0, .int .i64 0, .int .i64 0, .int .i64 0, .int .i64 0, .int .i64 0, .int .i64 0, .int .i64 0] : Array Value) 26 q #[.string N1, .string N2, .int .i64 o, .int .i64 a, .int .i64 K, .int .i64 M, .int .i64 D, .int .i64 A, .int .i64 C, .int .i64 K2, .int .i64 M2, .int .i64 D2, .int .i64 A2, .int .i64 C2] := S.out
  rw [← hW9] at S9
  rw [← hW9]
  replace S := Lib.hid S9
  clear S9 hW9
  have c0 := S.out.tp.tn.see
  obtain ⟨d0, d1, d2, d3, d4, d5, d6, d7, d8, d9, d10, d11, d12, d13, f0, f1, f2, f3, f4, f5, f6, f7, f8, f9, f10, f11, f12, f13⟩ := S.out.see14
  obtain ⟨x0, x1, x2, x3, x4, x5, x6, x7, x8, x9, x10, x11, x12, x13, g0, g1, g2, g3, g4, g5, g6, g7, g8, g9, g10, g11, g12, g13⟩ := S.out.tp.see14
  go_wp2_with fail
  have F := S.out.tp.all14 (.string N1) (.string N2) (.int .i64 o) (.int .i64 a) (.int .i64 K) (.int .i64 M) (.int .i64 D) (.int .i64 A) (.int .i64 C) (.int .i64 K2) (.int .i64 M2) (.int .i64 D2) (.int .i64 A2) (.int .i64 C2)
  show bodyPost _ _ _ _ _ (put17_14 W9 p (.string N1) (.string N2) (.int .i64 o) (.int .i64 a) (.int .i64 K) (.int .i64 M) (.int .i64 D) (.int .i64 A) (.int .i64 C) (.int .i64 K2) (.int .i64 M2) (.int .i64 D2) (.int .i64 A2) (.int .i64 C2))
  generalize put17_14 W9 p (.string N1) (.string N2) (.int .i64 o) (.int .i64 a) (.int .i64 K) (.int .i64 M) (.int .i64 D) (.int .i64 A) (.int .i64 C) (.int .i64 K2) (.int .i64 M2) (.int .i64 D2) (.int .i64 A2) (.int .i64 C2) = W99 at *
  obtain ⟨r0, r1, r2, r3, r4, r5, r6, r7, r8, r9, r10, r11, r12, r13, -⟩ := F.see14
  refine bodyPost_ret (v := .agg #[.string N1, .string N2, .int .i64 o, .int .i64 a, .int .i64 K, .int .i64 M, .int .i64 D, .int .i64 A, .int .i64 C, .int .i64 K2, .int .i64 M2, .int .i64 D2, .int .i64 A2, .int .i64 C2]) (by simp [results, Try.results10, go_sem, r0, r1, r2, r3, r4, r5, r6, r7, r8, r9, r10, r11, r12, r13]) rfl ⟨rfl, F.tn.sk, F.tn.gb⟩
end Go.Proofs.Ytkhcneacjnpcnaa
