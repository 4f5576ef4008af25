/- What a drawn region keeps in sight: blocks of labels. Written by gen_labq.py. -/
import Derived.Test.YtlnijcfgkhbfhaaDoorLabN
import Derived.Deep.RegionHeld3
namespace Go.Proofs.YtlnijcfgkhbfhaaDoor
open Go.RowKit
set_option linter.unusedVariables false

/-- Blocks that hold labels; all below is as it was. -/
structure Ks (bs : List (TypeId × Nat × Lb)) (w W : World) : Prop where
  lk : ∀ b ∈ bs, Lk b.1 W b.2.1 b.2.2
  bel : Below w.heap.size w W
theorem Ks.step {bs : List (TypeId × Nat × Lb)} {w W W' : World} (h : Ks bs w W) (hb : Below W.heap.size W W') : Ks bs w W' := ⟨fun b hm => (h.lk b hm).keep hb, h.bel.trans (hb.mono h.bel.size)⟩
theorem Ks.drew {bs : List (TypeId × Nat × Lb)} {w W : World} (h : Ks bs w W) : Ks bs w W.drew := ⟨h.lk, h.bel.drew⟩
theorem Ks.cells2 {T U : TypeId} {p q : Nat} {x y : Lb} {w W : World} (h : Ks [(T, p, x), (U, q, y)] w W) : W.cell? ⟨p, 0, none⟩ = some (.int .i64 x.y) ∧ W.cell? ⟨p, 1, none⟩ = some (.int .i64 x.m) ∧ W.cell? ⟨p, 2, none⟩ = some (.int .i64 x.d) ∧ W.cell? ⟨p, 3, none⟩ = some (.int .i64 x.h) ∧ W.cell? ⟨p, 4, none⟩ = some (.int .i64 x.i) ∧ W.cell? ⟨p, 5, none⟩ = some (.int .i64 x.s) ∧ W.cell? ⟨p, 6, none⟩ = some (.int .i64 x.n) ∧ W.cell? ⟨p, 7, none⟩ = some (.int .i64 x.o) ∧ W.cell? ⟨q, 0, none⟩ = some (.int .i64 y.y) ∧ W.cell? ⟨q, 1, none⟩ = some (.int .i64 y.m) ∧ W.cell? ⟨q, 2, none⟩ = some (.int .i64 y.d) ∧ W.cell? ⟨q, 3, none⟩ = some (.int .i64 y.h) ∧ W.cell? ⟨q, 4, none⟩ = some (.int .i64 y.i) ∧ W.cell? ⟨q, 5, none⟩ = some (.int .i64 y.s) ∧ W.cell? ⟨q, 6, none⟩ = some (.int .i64 y.n) ∧ W.cell? ⟨q, 7, none⟩ = some (.int .i64 y.o) ∧ Ks [(T, p, x), (U, q, y)] w W :=
  by
    have h0 := h.lk (T, p, x) (by simp)
    have h1 := h.lk (U, q, y) (by simp)
    exact ⟨bk_cell h0 0, bk_cell h0 1, bk_cell h0 2, bk_cell h0 3, bk_cell h0 4, bk_cell h0 5, bk_cell h0 6, bk_cell h0 7, bk_cell h1 0, bk_cell h1 1, bk_cell h1 2, bk_cell h1 3, bk_cell h1 4, bk_cell h1 5, bk_cell h1 6, bk_cell h1 7, h⟩
theorem Ks.cells3 {T U V : TypeId} {p q r : Nat} {x y z : Lb} {w W : World} (h : Ks [(T, p, x), (U, q, y), (V, r, z)] w W) : W.cell? ⟨p, 0, none⟩ = some (.int .i64 x.y) ∧ W.cell? ⟨p, 1, none⟩ = some (.int .i64 x.m) ∧ W.cell? ⟨p, 2, none⟩ = some (.int .i64 x.d) ∧ W.cell? ⟨p, 3, none⟩ = some (.int .i64 x.h) ∧ W.cell? ⟨p, 4, none⟩ = some (.int .i64 x.i) ∧ W.cell? ⟨p, 5, none⟩ = some (.int .i64 x.s) ∧ W.cell? ⟨p, 6, none⟩ = some (.int .i64 x.n) ∧ W.cell? ⟨p, 7, none⟩ = some (.int .i64 x.o) ∧ W.cell? ⟨q, 0, none⟩ = some (.int .i64 y.y) ∧ W.cell? ⟨q, 1, none⟩ = some (.int .i64 y.m) ∧ W.cell? ⟨q, 2, none⟩ = some (.int .i64 y.d) ∧ W.cell? ⟨q, 3, none⟩ = some (.int .i64 y.h) ∧ W.cell? ⟨q, 4, none⟩ = some (.int .i64 y.i) ∧ W.cell? ⟨q, 5, none⟩ = some (.int .i64 y.s) ∧ W.cell? ⟨q, 6, none⟩ = some (.int .i64 y.n) ∧ W.cell? ⟨q, 7, none⟩ = some (.int .i64 y.o) ∧ Ks [(T, p, x), (U, q, y), (V, r, z)] w W :=
  by
    have h0 := h.lk (T, p, x) (by simp)
    have h1 := h.lk (U, q, y) (by simp)
    exact ⟨bk_cell h0 0, bk_cell h0 1, bk_cell h0 2, bk_cell h0 3, bk_cell h0 4, bk_cell h0 5, bk_cell h0 6, bk_cell h0 7, bk_cell h1 0, bk_cell h1 1, bk_cell h1 2, bk_cell h1 3, bk_cell h1 4, bk_cell h1 5, bk_cell h1 6, bk_cell h1 7, h⟩
theorem Ks.cells4 {T U V X : TypeId} {p q r s : Nat} {x y z u : Lb} {w W : World} (h : Ks [(T, p, x), (U, q, y), (V, r, z), (X, s, u)] w W) : W.cell? ⟨p, 0, none⟩ = some (.int .i64 x.y) ∧ W.cell? ⟨p, 1, none⟩ = some (.int .i64 x.m) ∧ W.cell? ⟨p, 2, none⟩ = some (.int .i64 x.d) ∧ W.cell? ⟨p, 3, none⟩ = some (.int .i64 x.h) ∧ W.cell? ⟨p, 4, none⟩ = some (.int .i64 x.i) ∧ W.cell? ⟨p, 5, none⟩ = some (.int .i64 x.s) ∧ W.cell? ⟨p, 6, none⟩ = some (.int .i64 x.n) ∧ W.cell? ⟨p, 7, none⟩ = some (.int .i64 x.o) ∧ W.cell? ⟨q, 0, none⟩ = some (.int .i64 y.y) ∧ W.cell? ⟨q, 1, none⟩ = some (.int .i64 y.m) ∧ W.cell? ⟨q, 2, none⟩ = some (.int .i64 y.d) ∧ W.cell? ⟨q, 3, none⟩ = some (.int .i64 y.h) ∧ W.cell? ⟨q, 4, none⟩ = some (.int .i64 y.i) ∧ W.cell? ⟨q, 5, none⟩ = some (.int .i64 y.s) ∧ W.cell? ⟨q, 6, none⟩ = some (.int .i64 y.n) ∧ W.cell? ⟨q, 7, none⟩ = some (.int .i64 y.o) ∧ W.cell? ⟨r, 0, none⟩ = some (.int .i64 z.y) ∧ W.cell? ⟨r, 1, none⟩ = some (.int .i64 z.m) ∧ W.cell? ⟨r, 2, none⟩ = some (.int .i64 z.d) ∧ W.cell? ⟨r, 3, none⟩ = some (.int .i64 z.h) ∧ W.cell? ⟨r, 4, none⟩ = some (.int .i64 z.i) ∧ W.cell? ⟨r, 5, none⟩ = some (.int .i64 z.s) ∧ W.cell? ⟨r, 6, none⟩ = some (.int .i64 z.n) ∧ W.cell? ⟨r, 7, none⟩ = some (.int .i64 z.o) ∧ W.cell? ⟨s, 0, none⟩ = some (.int .i64 u.y) ∧ W.cell? ⟨s, 1, none⟩ = some (.int .i64 u.m) ∧ W.cell? ⟨s, 2, none⟩ = some (.int .i64 u.d) ∧ W.cell? ⟨s, 3, none⟩ = some (.int .i64 u.h) ∧ W.cell? ⟨s, 4, none⟩ = some (.int .i64 u.i) ∧ W.cell? ⟨s, 5, none⟩ = some (.int .i64 u.s) ∧ W.cell? ⟨s, 6, none⟩ = some (.int .i64 u.n) ∧ W.cell? ⟨s, 7, none⟩ = some (.int .i64 u.o) ∧ Ks [(T, p, x), (U, q, y), (V, r, z), (X, s, u)] w W :=
  by
    have h0 := h.lk (T, p, x) (by simp)
    have h1 := h.lk (U, q, y) (by simp)
    have h2 := h.lk (V, r, z) (by simp)
    have h3 := h.lk (X, s, u) (by simp)
    exact ⟨bk_cell h0 0, bk_cell h0 1, bk_cell h0 2, bk_cell h0 3, bk_cell h0 4, bk_cell h0 5, bk_cell h0 6, bk_cell h0 7, bk_cell h1 0, bk_cell h1 1, bk_cell h1 2, bk_cell h1 3, bk_cell h1 4, bk_cell h1 5, bk_cell h1 6, bk_cell h1 7, bk_cell h2 0, bk_cell h2 1, bk_cell h2 2, bk_cell h2 3, bk_cell h2 4, bk_cell h2 5, bk_cell h2 6, bk_cell h2 7, bk_cell h3 0, bk_cell h3 1, bk_cell h3 2, bk_cell h3 3, bk_cell h3 4, bk_cell h3 5, bk_cell h3 6, bk_cell h3 7, h⟩

/-- Document, as a region keeps its blocks. -/
theorem ldoc_ks {bs : List (TypeId × Nat × Lb)} {w : World} (x : Lb) (W : World) (h : Ks bs w W) : Calls Tryd.prog 11 #[.agg #[.int .i64 x.y, .int .i64 x.m, .int .i64 x.d, .int .i64 x.h, .int .i64 x.i, .int .i64 x.s, .int .i64 x.n, .int .i64 x.o]] W fun e w' => e = .returned (.agg #[.int .i64 x.y, .int .i64 x.m, .int .i64 x.d, .int .i64 x.h, .int .i64 x.i, .int .i64 x.s, .int .i64 x.n, .int .i64 x.o]) ∧ Ks bs w w' :=
  (ldoc_any x W).mono fun e w' ⟨he, hb⟩ => ⟨he, h.step hb⟩

end Go.Proofs.YtlnijcfgkhbfhaaDoor
