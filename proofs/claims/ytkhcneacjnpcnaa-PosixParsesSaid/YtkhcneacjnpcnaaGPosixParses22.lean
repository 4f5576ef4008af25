/- Merged: RulG. -/
import Derived.Test.YtkhcneacjnpcnaaGPosixParses21
import Derived.Test.YtkhcneacjnpcnaaGPosixParses9
namespace Go.Proofs.Ytkhcneacjnpcnaa
open Go.RowKit
set_option linter.unusedVariables false
set_option linter.unusedSimpArgs false

theorem gb_new {a w : World} {r : Option Nat} (h : a.grownBy w r) {p : Nat} (hp : a.heap.size ≤ p) (i : Nat) (u : Value) : a.grownBy (w.setCell ⟨p, i, none⟩ u) r :=
  ⟨h.os, h.tape, h.output, by have := h.size; simpa [World.setCell] using this, fun k hk hne => (Below.heap_setCell w _ u k (by intro e; have : k = p := e.symm ▸ rfl; omega)).trans (h.block k hk hne)⟩
theorem blk_set {w : World} {q p : Nat} {o : Option Obj} (h : w.heap[q]? = o) (hne : q ≠ p) (i : Nat) (u : Value) : (w.setCell ⟨p, i, none⟩ u).heap[q]? = o := (Below.heap_setCell w _ u q (by intro e; exact hne (by rw [e]))).trans h
/-- A scanner at work, and a result's box. -/
structure Tr (w W : World) (g : Nat) (v : Value) (k : Nat) (e : Int) (p : Nat) (ps : Array Value) (T : TypeId) : Prop where
  sk : Sk Ts W g v k e
  res : W.heap[p]? = some (.cells ps T (0, 0))
  gb : w.grownBy W (some g)
  pg : p ≠ g
  lp : w.heap.size ≤ p
theorem Tr.mv {w W W' : World} {g k k' p : Nat} {v : Value} {e e' : Int} {ps : Array Value} {T : TypeId} (h : Tr w W g v k e p ps T) (hm : Mv Ts g v k' e' W W') : Tr w W' g v k' e' p ps T :=
  ⟨hm.1, (hm.2.block p (bk_lt h.res) (by intro c; injection c with c; exact h.pg c)).trans h.res, h.gb.trans hm.2, h.pg, h.lp⟩
theorem Tr.new {w : World} {g k : Nat} {v : Value} {e : Int} (h : Sk Ts w g v k e) (ps : Array Value) (T : TypeId) : Tr w (w.alloc (.cells ps T)) g v k e w.heap.size ps T :=
  ⟨h.alloc _, heap_alloc_new w _, World.grownBy_alloc w _ _, by have := h.lt; omega, Nat.le_refl _⟩
theorem Tr.put {w W : World} {g k p : Nat} {v : Value} {e : Int} {ps : Array Value} {T : TypeId} (h : Tr w W g v k e p ps T) (i : Nat) (u : Value) : Tr w (W.setCell ⟨p, i, none⟩ u) g v k e p (ps.setIfInBounds i u) T :=
  ⟨blk_set h.sk (fun c => h.pg c.symm) i u, bk_set h.res i u, gb_new h.gb h.lp i u, h.pg, h.lp⟩
/-- And a variable's box. -/
structure Tc (w W : World) (g : Nat) (v : Value) (k : Nat) (e : Int) (p : Nat) (ps : Array Value) (q : Nat) (qs : Array Value) (T : TypeId) : Prop where
  tr : Tr w W g v k e p ps T
  box : W.heap[q]? = some (.cells qs T (0, 0))
  qg : q ≠ g
  pq : p ≠ q
  lq : w.heap.size ≤ q
theorem Tr.box {w W : World} {g k p : Nat} {v : Value} {e : Int} {ps : Array Value} {T : TypeId} (h : Tr w W g v k e p ps T) (qs : Array Value) : Tc w (W.alloc (.cells qs T)) g v k e p ps W.heap.size qs T :=
  ⟨⟨h.sk.alloc _, ((Below.refl _ W).alloc (Nat.le_refl _) _).block p (bk_lt h.res) ▸ h.res, gb_alloc h.gb _, h.pg, h.lp⟩, heap_alloc_new W _, by have := h.sk.lt; omega, by have := bk_lt h.res; omega, h.gb.size⟩
theorem Tc.mv {w W W' : World} {g k k' p q : Nat} {v : Value} {e e' : Int} {ps qs : Array Value} {T : TypeId} (h : Tc w W g v k e p ps q qs T) (hm : Mv Ts g v k' e' W W') : Tc w W' g v k' e' p ps q qs T :=
  ⟨h.tr.mv hm, (hm.2.block q (bk_lt h.box) (by intro c; injection c with c; exact h.qg c)).trans h.box, h.qg, h.pq, h.lq⟩
theorem Tc.set {w W : World} {g k p q : Nat} {v : Value} {e : Int} {ps qs : Array Value} {T : TypeId} (h : Tc w W g v k e p ps q qs T) (i : Nat) (u : Value) : Tc w (W.setCell ⟨q, i, none⟩ u) g v k e p ps q (qs.setIfInBounds i u) T :=
  ⟨⟨blk_set h.tr.sk (fun c => h.qg c.symm) i u, blk_set h.tr.res h.pq i u, gb_new h.tr.gb h.lq i u, h.tr.pg, h.tr.lp⟩, bk_set h.box i u, h.qg, h.pq, h.lq⟩
theorem Tr.seec {w W : World} {g k p : Nat} {v : Value} {e : Int} {a0 : Bool} {a1 : Int} {a2 : Int} {a3 : Int} (h : Tr w W g v k e p #[.bool a0, .int .i64 a1, .int .i64 a2, .int .i64 a3] 88) :
    W.cell? ⟨p, 0, none⟩ = some (.bool a0) ∧ W.cell? ⟨p, 1, none⟩ = some (.int .i64 a1) ∧ W.cell? ⟨p, 2, none⟩ = some (.int .i64 a2) ∧ W.cell? ⟨p, 3, none⟩ = some (.int .i64 a3) ∧ W.frozen? ⟨p, 0, none⟩ = false ∧ W.frozen? ⟨p, 1, none⟩ = false ∧ W.frozen? ⟨p, 2, none⟩ = false ∧ W.frozen? ⟨p, 3, none⟩ = false :=
  ⟨bk_cell h.res 0, bk_cell h.res 1, bk_cell h.res 2, bk_cell h.res 3, bk_free h.res 0, bk_free h.res 1, bk_free h.res 2, bk_free h.res 3⟩
theorem Tc.seec {w W : World} {g k p q : Nat} {v : Value} {e : Int} {a0 : Bool} {a1 : Int} {a2 : Int} {a3 : Int} {b0 : Bool} {b1 : Int} {b2 : Int} {b3 : Int} (h : Tc w W g v k e p #[.bool a0, .int .i64 a1, .int .i64 a2, .int .i64 a3] q #[.bool b0, .int .i64 b1, .int .i64 b2, .int .i64 b3] 88) :
    W.cell? ⟨q, 0, none⟩ = some (.bool b0) ∧ W.cell? ⟨q, 1, none⟩ = some (.int .i64 b1) ∧ W.cell? ⟨q, 2, none⟩ = some (.int .i64 b2) ∧ W.cell? ⟨q, 3, none⟩ = some (.int .i64 b3) ∧ W.frozen? ⟨q, 0, none⟩ = false ∧ W.frozen? ⟨q, 1, none⟩ = false ∧ W.frozen? ⟨q, 2, none⟩ = false ∧ W.frozen? ⟨q, 3, none⟩ = false :=
  ⟨bk_cell h.box 0, bk_cell h.box 1, bk_cell h.box 2, bk_cell h.box 3, bk_free h.box 0, bk_free h.box 1, bk_free h.box 2, bk_free h.box 3⟩
abbrev put16c (W : World) (p : Nat) (a0 : Bool) (a1 : Int) (a2 : Int) (a3 : Int) : World := (((W.setCell ⟨p, 0, none⟩ (.bool a0)).setCell ⟨p, 1, none⟩ (.int .i64 a1)).setCell ⟨p, 2, none⟩ (.int .i64 a2)).setCell ⟨p, 3, none⟩ (.int .i64 a3)
theorem Tr.allc {w W : World} {g k p : Nat} {v : Value} {e : Int} {b0 : Bool} {b1 : Int} {b2 : Int} {b3 : Int} (h : Tr w W g v k e p #[.bool b0, .int .i64 b1, .int .i64 b2, .int .i64 b3] 88) (a0 : Bool) (a1 : Int) (a2 : Int) (a3 : Int) : Tr w (put16c W p a0 a1 a2 a3) g v k e p #[.bool a0, .int .i64 a1, .int .i64 a2, .int .i64 a3] 88 :=
  ((((h.put 0 (.bool a0)).put 1 (.int .i64 a1)).put 2 (.int .i64 a2)).put 3 (.int .i64 a3))
theorem Tr.seer {w W : World} {g k p : Nat} {v : Value} {e : Int} {a0 : Int} {a1 : Int} {a2 : Int} {a3 : Int} {a4 : Int} (h : Tr w W g v k e p #[.int .i64 a0, .int .i64 a1, .int .i64 a2, .int .i64 a3, .int .i64 a4] 24) :
    W.cell? ⟨p, 0, none⟩ = some (.int .i64 a0) ∧ W.cell? ⟨p, 1, none⟩ = some (.int .i64 a1) ∧ W.cell? ⟨p, 2, none⟩ = some (.int .i64 a2) ∧ W.cell? ⟨p, 3, none⟩ = some (.int .i64 a3) ∧ W.cell? ⟨p, 4, none⟩ = some (.int .i64 a4) ∧ W.frozen? ⟨p, 0, none⟩ = false ∧ W.frozen? ⟨p, 1, none⟩ = false ∧ W.frozen? ⟨p, 2, none⟩ = false ∧ W.frozen? ⟨p, 3, none⟩ = false ∧ W.frozen? ⟨p, 4, none⟩ = false :=
  ⟨bk_cell h.res 0, bk_cell h.res 1, bk_cell h.res 2, bk_cell h.res 3, bk_cell h.res 4, bk_free h.res 0, bk_free h.res 1, bk_free h.res 2, bk_free h.res 3, bk_free h.res 4⟩
theorem Tc.seer {w W : World} {g k p q : Nat} {v : Value} {e : Int} {a0 : Int} {a1 : Int} {a2 : Int} {a3 : Int} {a4 : Int} {b0 : Int} {b1 : Int} {b2 : Int} {b3 : Int} {b4 : Int} (h : Tc w W g v k e p #[.int .i64 a0, .int .i64 a1, .int .i64 a2, .int .i64 a3, .int .i64 a4] q #[.int .i64 b0, .int .i64 b1, .int .i64 b2, .int .i64 b3, .int .i64 b4] 24) :
    W.cell? ⟨q, 0, none⟩ = some (.int .i64 b0) ∧ W.cell? ⟨q, 1, none⟩ = some (.int .i64 b1) ∧ W.cell? ⟨q, 2, none⟩ = some (.int .i64 b2) ∧ W.cell? ⟨q, 3, none⟩ = some (.int .i64 b3) ∧ W.cell? ⟨q, 4, none⟩ = some (.int .i64 b4) ∧ W.frozen? ⟨q, 0, none⟩ = false ∧ W.frozen? ⟨q, 1, none⟩ = false ∧ W.frozen? ⟨q, 2, none⟩ = false ∧ W.frozen? ⟨q, 3, none⟩ = false ∧ W.frozen? ⟨q, 4, none⟩ = false :=
  ⟨bk_cell h.box 0, bk_cell h.box 1, bk_cell h.box 2, bk_cell h.box 3, bk_cell h.box 4, bk_free h.box 0, bk_free h.box 1, bk_free h.box 2, bk_free h.box 3, bk_free h.box 4⟩
abbrev put16r (W : World) (p : Nat) (a0 : Int) (a1 : Int) (a2 : Int) (a3 : Int) (a4 : Int) : World := ((((W.setCell ⟨p, 0, none⟩ (.int .i64 a0)).setCell ⟨p, 1, none⟩ (.int .i64 a1)).setCell ⟨p, 2, none⟩ (.int .i64 a2)).setCell ⟨p, 3, none⟩ (.int .i64 a3)).setCell ⟨p, 4, none⟩ (.int .i64 a4)
theorem Tr.allr {w W : World} {g k p : Nat} {v : Value} {e : Int} {b0 : Int} {b1 : Int} {b2 : Int} {b3 : Int} {b4 : Int} (h : Tr w W g v k e p #[.int .i64 b0, .int .i64 b1, .int .i64 b2, .int .i64 b3, .int .i64 b4] 24) (a0 : Int) (a1 : Int) (a2 : Int) (a3 : Int) (a4 : Int) : Tr w (put16r W p a0 a1 a2 a3 a4) g v k e p #[.int .i64 a0, .int .i64 a1, .int .i64 a2, .int .i64 a3, .int .i64 a4] 24 :=
  (((((h.put 0 (.int .i64 a0)).put 1 (.int .i64 a1)).put 2 (.int .i64 a2)).put 3 (.int .i64 a3)).put 4 (.int .i64 a4))
end Go.Proofs.Ytkhcneacjnpcnaa
