/- The document's answer for digests: a state's block, the part of a block that a word is. -/
import Derived.Test.YtijopeacgpmicaaDoorShaS
namespace Go.Proofs.YtijopeacgpmicaaDoor
open Go.RowKit
set_option linter.unusedVariables false

/-- A state's block. -/
def stv (s : St) : Array Value := #[.int .u32 (u s.a), .int .u32 (u s.b), .int .u32 (u s.c), .int .u32 (u s.d), .int .u32 (u s.e)]
def Sb (w : World) (p : Nat) (s : St) : Prop := w.heap[p]? = some (.cells (stv s) 28 (0, 0))
theorem Sb.lt {w : World} {p : Nat} {s : St} (h : Sb w p s) : p < w.heap.size := bk_lt h
theorem Sb.keep {w w' : World} {p : Nat} {s : St} (h : Sb w p s) (hb : Below w.heap.size w w') : Sb w' p s := (hb.block p h.lt).trans h
theorem Sb.all {w : World} {p : Nat} {s : St} (h : Sb w p s) : w.cell? ⟨p, 0, none⟩ = some (.int .u32 (u s.a)) ∧ w.cell? ⟨p, 1, none⟩ = some (.int .u32 (u s.b)) ∧ w.cell? ⟨p, 2, none⟩ = some (.int .u32 (u s.c)) ∧ w.cell? ⟨p, 3, none⟩ = some (.int .u32 (u s.d)) ∧ w.cell? ⟨p, 4, none⟩ = some (.int .u32 (u s.e)) :=
  ⟨bk_cell h 0, bk_cell h 1, bk_cell h 2, bk_cell h 3, bk_cell h 4⟩
theorem Sb.frees {w : World} {p : Nat} {s : St} (h : Sb w p s) : w.frozen? ⟨p, 0, none⟩ = false ∧ w.frozen? ⟨p, 1, none⟩ = false ∧ w.frozen? ⟨p, 2, none⟩ = false ∧ w.frozen? ⟨p, 3, none⟩ = false ∧ w.frozen? ⟨p, 4, none⟩ = false :=
  ⟨bk_free h 0, bk_free h 1, bk_free h 2, bk_free h 3, bk_free h 4⟩
theorem Sb.s0 {w : World} {p : Nat} {s : St} (h : Sb w p s) (v : BitVec 32) : Sb (w.setCell ⟨p, 0, none⟩ (.int .u32 (u v))) p ⟨v, s.b, s.c, s.d, s.e⟩ := by
  have e := bk_set h 0 (.int .u32 (u v))
  unfold Sb
  rw [e]; rfl
theorem Sb.s1 {w : World} {p : Nat} {s : St} (h : Sb w p s) (v : BitVec 32) : Sb (w.setCell ⟨p, 1, none⟩ (.int .u32 (u v))) p ⟨s.a, v, s.c, s.d, s.e⟩ := by
  have e := bk_set h 1 (.int .u32 (u v))
  unfold Sb
  rw [e]; rfl
theorem Sb.s2 {w : World} {p : Nat} {s : St} (h : Sb w p s) (v : BitVec 32) : Sb (w.setCell ⟨p, 2, none⟩ (.int .u32 (u v))) p ⟨s.a, s.b, v, s.d, s.e⟩ := by
  have e := bk_set h 2 (.int .u32 (u v))
  unfold Sb
  rw [e]; rfl
theorem Sb.s3 {w : World} {p : Nat} {s : St} (h : Sb w p s) (v : BitVec 32) : Sb (w.setCell ⟨p, 3, none⟩ (.int .u32 (u v))) p ⟨s.a, s.b, s.c, v, s.e⟩ := by
  have e := bk_set h 3 (.int .u32 (u v))
  unfold Sb
  rw [e]; rfl
theorem Sb.s4 {w : World} {p : Nat} {s : St} (h : Sb w p s) (v : BitVec 32) : Sb (w.setCell ⟨p, 4, none⟩ (.int .u32 (u v))) p ⟨s.a, s.b, s.c, s.d, v⟩ := by
  have e := bk_set h 4 (.int .u32 (u v))
  unfold Sb
  rw [e]; rfl
/-- A state stored. -/
abbrev put5 (W : World) (q : Nat) (s : St) : World := ((((W.setCell ⟨q, 0, none⟩ (.int .u32 (u s.a))).setCell ⟨q, 1, none⟩ (.int .u32 (u s.b))).setCell ⟨q, 2, none⟩ (.int .u32 (u s.c))).setCell ⟨q, 3, none⟩ (.int .u32 (u s.d))).setCell ⟨q, 4, none⟩ (.int .u32 (u s.e))
theorem put5_sb {W : World} {q : Nat} {l : St} (g : Sb W q l) (s : St) : Sb (put5 W q s) q s := ((((g.s0 s.a).s1 s.b).s2 s.c).s3 s.d).s4 s.e
theorem put5_below {B : Nat} {w W : World} {q : Nat} (b : Below B w W) (hq : B ≤ q) (s : St) : Below B w (put5 W q s) := ((((b.setCell hq _).setCell hq _).setCell hq _).setCell hq _).setCell hq _
def zs5 : St := ⟨0, 0, 0, 0, 0⟩
theorem u_zero : u 0 = 0 := by decide

/-- The part of a block that a word is. -/
theorem word_part {W : World} {A : Option Addr} {l : List UInt8} {c : Nat} (h : Rb W A l) (hA : A = none → c = 0) (hc : l.length ≤ c) (hl : l.length = 64) {t : Nat} (ht : t < 16) :
    ∃ A' c' m, m.length = 4 ∧ m = (l.drop (4 * t)).take 4 ∧ (∀ w', (Instr.slice 22 (.slice A l.length c) (some (.int .i64 ((4 * t : Nat) : Int))) (some (.int .i64 ((4 * t + 4 : Nat) : Int))) none).run Tryd.prog w' = .ok (.slice A' m.length c') w') ∧ Rb W A' m := by
  obtain ⟨A', c', m, e, r, hb, -, -, -, -⟩ := part_lh h hA hc (lo := 4 * t) (hi := 4 * t + 4) (by omega) (by omega)
  rw [show 4 * t + 4 - 4 * t = 4 by omega] at e
  exact ⟨A', c', m, by rw [e]; simp; omega, e, r, hb⟩

end Go.Proofs.YtijopeacgpmicaaDoor
