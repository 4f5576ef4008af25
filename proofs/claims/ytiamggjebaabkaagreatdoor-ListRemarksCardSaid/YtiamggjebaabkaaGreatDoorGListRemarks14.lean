/- Merged: BigA, BigB, BigD, BigH, RefC, ListD, ListE, ListF, ListJ. -/
import Derived.Test.YtiamggjebaabkaaGreatDoorGListRemarks1
import Derived.Test.YtiamggjebaabkaaGreatDoorGListRemarks13
import Derived.Outline
import Derived.Deep.Draws
import Derived.LoopTactic
import Derived.Laws.OwnMore
import Derived.Maps.AppendAt
import Derived.BigQuiet
import Derived.Deep.QuietTactic
import Derived.OwnWalk
import Derived.Deep.RegionWith
import Derived.Deep.DeepCutAuto
import Derived.Deep.CutRange
import Derived.Deep.RegionHeld3
import Derived.Deep.CutBlock
import Derived.Deep.LoopGhost
import Derived.Laws.Concat
import Derived.Test.YtiamggjebaabkaaGreatDoorGListRemarks4
namespace Go.Proofs.YtiamggjebaabkaaGreatDoor
open Go.RowKit

/-- The slice at A reads as the digits ds. -/
def Rd (w : World) (A : Option Addr) (ds : List Nat) : Prop :=
  low ds ∧ (ds = [] ∨ ∃ b : Nat, A = some ⟨b, 0, none⟩ ∧ b < w.heap.size ∧ ∀ j, j < ds.length → w.cell? ⟨b, j, none⟩ = some (.int .u64 (dg ds j)))

theorem Rd.below {w w' : World} {A : Option Addr} {ds : List Nat} (h : Rd w A ds) (hb : Below w.heap.size w w') : Rd w' A ds := by
  refine ⟨h.1, h.2.imp id ?_⟩
  rintro ⟨b, hA, hlt, hc⟩
  exact ⟨b, hA, Nat.lt_of_lt_of_le hlt hb.size, fun j hj => (hb.cell (p := ⟨b, j, none⟩) hlt).trans (hc j hj)⟩
theorem Rd.drewN {w : World} {A : Option Addr} {ds : List Nat} (h : Rd w A ds) (n : Nat) : Rd (w.drewN n) A ds := h
theorem Rd.cell {w : World} {A : Option Addr} {ds : List Nat} (h : Rd w A ds) {i : Nat} (hi : i < ds.length) : ∃ b, A = some ⟨b, 0, none⟩ ∧ b < w.heap.size ∧ w.cell? ⟨b, i, none⟩ = some (.int .u64 (dg ds i)) := by
  rcases h.2 with rfl | ⟨b, hA, hlt, hc⟩
  · simp at hi
  · exact ⟨b, hA, hlt, hc i hi⟩
theorem Rd.take_ {w : World} {A : Option Addr} {ds : List Nat} (h : Rd w A ds) (n : Nat) (hn : n ≤ ds.length) : Rd w A (ds.take n) := by
  refine ⟨low_take h.1 n, h.2.imp (fun e => by rw [e]; simp) ?_⟩
  rintro ⟨b, hA, hlt, hc⟩
  refine ⟨b, hA, hlt, fun j hj => ?_⟩
  rw [List.length_take] at hj
  rw [dg_take (by omega)]
  exact hc j (by omega)
/-- Is a row without a 0 at its end? -/
def trim (ds : List Nat) : Prop := 0 < ds.length → 0 < nv ds

end Go.Proofs.YtiamggjebaabkaaGreatDoor

namespace Go.Proofs.YtiamggjebaabkaaGreatDoor
open Go.RowKit

/-- The cells of a row of digits. -/
def cl (ds : List Nat) : List Value := ds.map fun d : Nat => Value.int .u64 (d : Int)
/-- The slice v is the call's own, and holds the digits ds. -/
def Own (w : World) (base : Nat) (v : Value) (ds : List Nat) : Prop := w.ownsRow base 105 1 v ds.length (cl ds)
theorem Own.below {w w' : World} {base B : Nat} {v : Value} {ds : List Nat} (h : Own w base v ds) (hb : Below B w w') (hB : w.heap.size ≤ B) : Own w' base v ds := by
  refine ⟨h.1, h.2.imp id ?_⟩
  rintro ⟨g, cap, cur, hv, hbg, hh, r⟩
  refine ⟨g, cap, cur, hv, hbg, ?_, r⟩
  rw [hb.block g (Nat.lt_of_lt_of_le (World.ownsRow.lt h g (by rw [hv]; rfl)).2 hB)]
  exact hh
theorem Own.drewN {w : World} {base : Nat} {v : Value} {ds : List Nat} (h : Own w base v ds) (n : Nat) : Own (w.drewN n) base v ds := h
end Go.Proofs.YtiamggjebaabkaaGreatDoor

namespace Go.Proofs.YtiamggjebaabkaaGreatDoor
open Go.RowKit

/-- The value v is a Big that is the number z, of at most k digits. -/
def BV (w : World) (v : Value) (z : Int) (k : Nat) : Prop :=
  ∃ (A : Option Addr) (ds : List Nat) (c : Nat), v = .agg #[.bool (decide (z < 0)), .slice A ds.length c] ∧ Rd w A ds ∧ ds.length ≤ c ∧ c ≤ maxLen ∧ ds.length ≤ k ∧ nv ds = z.natAbs ∧ trim ds
theorem BV.below {w w' : World} {v : Value} {z : Int} {k : Nat} (h : BV w v z k) (hb : Below w.heap.size w w') : BV w' v z k := by
  obtain ⟨A, ds, c, h1, h2, h3⟩ := h
  exact ⟨A, ds, c, h1, h2.below hb, h3⟩

/-- What the loop of Of keeps. -/
def OfRel (a x : Int) (ds : List Nat) : Prop :=
  low ds ∧ nv ds + 65536 ^ ds.length * x.natAbs = a.natAbs ∧ fits x ∧ ds.length ≤ 4 ∧ (0 < ds.length → a ≠ 0) ∧ (ds.length = 0 → x = a)
theorem OfRel.step {a x : Int} {ds : List Nat} (h : OfRel a x ds) (ha : fits a) (hx : x ≠ 0) : OfRel a (x.tdiv 65536) (ds ++ [x.natAbs % 65536]) ∧ ds.length < 4 := by
  obtain ⟨h1, h2, h3, h4, h5, h6⟩ := h
  have ha' : a.natAbs ≤ 9223372036854775808 := by unfold fits at ha; omega
  have hlt : ds.length < 4 := by
    rcases Nat.lt_or_ge ds.length 4 with h | h
    · exact h
    · exfalso
      have e : ds.length = 4 := by omega
      rw [e] at h2
      omega
  refine ⟨⟨low_snoc h1 (Nat.mod_lt _ (by omega)), ?_, ?_, by rw [List.length_append]; simp; omega, fun _ => ?_, fun h => by simp at h⟩, hlt⟩
  · rw [nv_snoc, List.length_append, List.length_singleton, Nat.pow_succ, Int.natAbs_tdiv, ← h2, Nat.add_assoc, Nat.mul_assoc, ← Nat.mul_add]
    congr 2
    exact Nat.mod_add_div _ _
  · refine tdiv_fit h3 (by decide) (by decide)
  · rcases Nat.eq_zero_or_pos ds.length with h0 | h0
    · rw [← h6 h0]; exact hx
    · exact h5 h0
end Go.Proofs.YtiamggjebaabkaaGreatDoor

namespace Go.Proofs.YtiamggjebaabkaaGreatDoor
open Go.RowKit

/-- The part of the number that the digits from i on are, with the number's sign. -/
def part (z : Int) (ds : List Nat) (i : Nat) : Int := if z < 0 then - (vd ds i : Int) else vd ds i
end Go.Proofs.YtiamggjebaabkaaGreatDoor

namespace Go.Proofs.YtiamggjebaabkaaGreatDoor
open Go.RowKit
set_option linter.unusedVariables false

theorem BV.up {w : World} {v : Value} {z : Int} {k l : Nat} (h : BV w v z k) (hl : k ≤ l) : BV w v z l := by
  obtain ⟨A, ds, c, h1, h2, h3, h4, h5, h6⟩ := h
  exact ⟨A, ds, c, h1, h2, h3, h4, by omega, h6⟩

end Go.Proofs.YtiamggjebaabkaaGreatDoor

namespace Go.Proofs.YtiamggjebaabkaaGreatDoor
open Go.RowKit Go.WideShapes Go.ChangeShapes
set_option linter.unusedVariables false
set_option linter.unusedSimpArgs false

/-- A word of a row of words. -/
theorem Rs.at {w : World} {A : Option Addr} {ls : List (List UInt8)} (h : Rs w A ls) {i : Nat} {u : List UInt8} (hi : ls[i]? = some u) : ∃ b off, A = some ⟨b, off, none⟩ ∧ b < w.heap.size ∧ w.cell? ⟨b, off + i, none⟩ = some (.string ⟨u.toArray⟩) := by
  rcases h with h | ⟨b, off, h1, h2, h3⟩
  · rw [h] at hi; simp at hi
  · exact ⟨b, off, h1, h2, h3 i u hi⟩

end Go.Proofs.YtiamggjebaabkaaGreatDoor

namespace Go.Proofs.YtiamggjebaabkaaGreatDoor
open Go.RowKit Go.WideShapes Go.ChangeShapes
set_option linter.unusedVariables false
set_option linter.unusedSimpArgs false

/-- A Read's block. -/
def B13 (w : World) (g : Nat) (cs : Array Value) : Prop := w.heap[g]? = some (.cells cs 38 (0, 0))
theorem B13.keep {w w' : World} {g : Nat} {cs : Array Value} (h : B13 w g cs) (hb : Below w.heap.size w w') : B13 w' g cs := (hb.block g (bk_lt h)).trans h
theorem B13.all {w : World} {g : Nat} {b0 b1 b2 b3 b4 b5 b6 b7 b8 b9 b10 b11 b12 : Value} (h : B13 w g #[b0, b1, b2, b3, b4, b5, b6, b7, b8, b9, b10, b11, b12]) :
    w.cell? ⟨g, 0, none⟩ = some b0 ∧ w.cell? ⟨g, 1, none⟩ = some b1 ∧ w.cell? ⟨g, 2, none⟩ = some b2 ∧ w.cell? ⟨g, 3, none⟩ = some b3 ∧ w.cell? ⟨g, 4, none⟩ = some b4 ∧ w.cell? ⟨g, 5, none⟩ = some b5 ∧ w.cell? ⟨g, 6, none⟩ = some b6 ∧ w.cell? ⟨g, 7, none⟩ = some b7 ∧ w.cell? ⟨g, 8, none⟩ = some b8 ∧ w.cell? ⟨g, 9, none⟩ = some b9 ∧ w.cell? ⟨g, 10, none⟩ = some b10 ∧ w.cell? ⟨g, 11, none⟩ = some b11 ∧ w.cell? ⟨g, 12, none⟩ = some b12 :=
  ⟨bk_cell h 0, bk_cell h 1, bk_cell h 2, bk_cell h 3, bk_cell h 4, bk_cell h 5, bk_cell h 6, bk_cell h 7, bk_cell h 8, bk_cell h 9, bk_cell h 10, bk_cell h 11, bk_cell h 12⟩
theorem B13.frees {w : World} {g : Nat} {cs : Array Value} (h : B13 w g cs) : w.frozen? ⟨g, 0, none⟩ = false ∧ w.frozen? ⟨g, 1, none⟩ = false ∧ w.frozen? ⟨g, 2, none⟩ = false ∧ w.frozen? ⟨g, 3, none⟩ = false ∧ w.frozen? ⟨g, 4, none⟩ = false ∧ w.frozen? ⟨g, 5, none⟩ = false ∧ w.frozen? ⟨g, 6, none⟩ = false ∧ w.frozen? ⟨g, 7, none⟩ = false ∧ w.frozen? ⟨g, 8, none⟩ = false ∧ w.frozen? ⟨g, 9, none⟩ = false ∧ w.frozen? ⟨g, 10, none⟩ = false ∧ w.frozen? ⟨g, 11, none⟩ = false ∧ w.frozen? ⟨g, 12, none⟩ = false :=
  ⟨bk_free h 0, bk_free h 1, bk_free h 2, bk_free h 3, bk_free h 4, bk_free h 5, bk_free h 6, bk_free h 7, bk_free h 8, bk_free h 9, bk_free h 10, bk_free h 11, bk_free h 12⟩
abbrev put13 (W : World) (q : Nat) (a0 a1 a2 a3 a4 a5 a6 a7 a8 a9 a10 a11 a12 : Value) : World := (((((((((((((W.setCell ⟨q, 0, none⟩ a0).setCell ⟨q, 1, none⟩ a1).setCell ⟨q, 2, none⟩ a2).setCell ⟨q, 3, none⟩ a3).setCell ⟨q, 4, none⟩ a4).setCell ⟨q, 5, none⟩ a5).setCell ⟨q, 6, none⟩ a6).setCell ⟨q, 7, none⟩ a7).setCell ⟨q, 8, none⟩ a8).setCell ⟨q, 9, none⟩ a9).setCell ⟨q, 10, none⟩ a10).setCell ⟨q, 11, none⟩ a11).setCell ⟨q, 12, none⟩ a12)
theorem B13.put {W : World} {q : Nat} {b0 b1 b2 b3 b4 b5 b6 b7 b8 b9 b10 b11 b12 : Value} (h : B13 W q #[b0, b1, b2, b3, b4, b5, b6, b7, b8, b9, b10, b11, b12]) (a0 a1 a2 a3 a4 a5 a6 a7 a8 a9 a10 a11 a12 : Value) : B13 (put13 W q a0 a1 a2 a3 a4 a5 a6 a7 a8 a9 a10 a11 a12) q #[a0, a1, a2, a3, a4, a5, a6, a7, a8, a9, a10, a11, a12] := by
  have h0 := h
  have h1 : B13 (W.setCell ⟨q, 0, none⟩ a0) q #[a0, b1, b2, b3, b4, b5, b6, b7, b8, b9, b10, b11, b12] := bk_set h0 0 a0
  have h2 : B13 ((W.setCell ⟨q, 0, none⟩ a0).setCell ⟨q, 1, none⟩ a1) q #[a0, a1, b2, b3, b4, b5, b6, b7, b8, b9, b10, b11, b12] := bk_set h1 1 a1
  have h3 : B13 (((W.setCell ⟨q, 0, none⟩ a0).setCell ⟨q, 1, none⟩ a1).setCell ⟨q, 2, none⟩ a2) q #[a0, a1, a2, b3, b4, b5, b6, b7, b8, b9, b10, b11, b12] := bk_set h2 2 a2
  have h4 : B13 ((((W.setCell ⟨q, 0, none⟩ a0).setCell ⟨q, 1, none⟩ a1).setCell ⟨q, 2, none⟩ a2).setCell ⟨q, 3, none⟩ a3) q #[a0, a1, a2, a3, b4, b5, b6, b7, b8, b9, b10, b11, b12] := bk_set h3 3 a3
  have h5 : B13 (((((W.setCell ⟨q, 0, none⟩ a0).setCell ⟨q, 1, none⟩ a1).setCell ⟨q, 2, none⟩ a2).setCell ⟨q, 3, none⟩ a3).setCell ⟨q, 4, none⟩ a4) q #[a0, a1, a2, a3, a4, b5, b6, b7, b8, b9, b10, b11, b12] := bk_set h4 4 a4
  have h6 : B13 ((((((W.setCell ⟨q, 0, none⟩ a0).setCell ⟨q, 1, none⟩ a1).setCell ⟨q, 2, none⟩ a2).setCell ⟨q, 3, none⟩ a3).setCell ⟨q, 4, none⟩ a4).setCell ⟨q, 5, none⟩ a5) q #[a0, a1, a2, a3, a4, a5, b6, b7, b8, b9, b10, b11, b12] := bk_set h5 5 a5
  have h7 : B13 (((((((W.setCell ⟨q, 0, none⟩ a0).setCell ⟨q, 1, none⟩ a1).setCell ⟨q, 2, none⟩ a2).setCell ⟨q, 3, none⟩ a3).setCell ⟨q, 4, none⟩ a4).setCell ⟨q, 5, none⟩ a5).setCell ⟨q, 6, none⟩ a6) q #[a0, a1, a2, a3, a4, a5, a6, b7, b8, b9, b10, b11, b12] := bk_set h6 6 a6
  have h8 : B13 ((((((((W.setCell ⟨q, 0, none⟩ a0).setCell ⟨q, 1, none⟩ a1).setCell ⟨q, 2, none⟩ a2).setCell ⟨q, 3, none⟩ a3).setCell ⟨q, 4, none⟩ a4).setCell ⟨q, 5, none⟩ a5).setCell ⟨q, 6, none⟩ a6).setCell ⟨q, 7, none⟩ a7) q #[a0, a1, a2, a3, a4, a5, a6, a7, b8, b9, b10, b11, b12] := bk_set h7 7 a7
  have h9 : B13 (((((((((W.setCell ⟨q, 0, none⟩ a0).setCell ⟨q, 1, none⟩ a1).setCell ⟨q, 2, none⟩ a2).setCell ⟨q, 3, none⟩ a3).setCell ⟨q, 4, none⟩ a4).setCell ⟨q, 5, none⟩ a5).setCell ⟨q, 6, none⟩ a6).setCell ⟨q, 7, none⟩ a7).setCell ⟨q, 8, none⟩ a8) q #[a0, a1, a2, a3, a4, a5, a6, a7, a8, b9, b10, b11, b12] := bk_set h8 8 a8
  have h10 : B13 ((((((((((W.setCell ⟨q, 0, none⟩ a0).setCell ⟨q, 1, none⟩ a1).setCell ⟨q, 2, none⟩ a2).setCell ⟨q, 3, none⟩ a3).setCell ⟨q, 4, none⟩ a4).setCell ⟨q, 5, none⟩ a5).setCell ⟨q, 6, none⟩ a6).setCell ⟨q, 7, none⟩ a7).setCell ⟨q, 8, none⟩ a8).setCell ⟨q, 9, none⟩ a9) q #[a0, a1, a2, a3, a4, a5, a6, a7, a8, a9, b10, b11, b12] := bk_set h9 9 a9
  have h11 : B13 (((((((((((W.setCell ⟨q, 0, none⟩ a0).setCell ⟨q, 1, none⟩ a1).setCell ⟨q, 2, none⟩ a2).setCell ⟨q, 3, none⟩ a3).setCell ⟨q, 4, none⟩ a4).setCell ⟨q, 5, none⟩ a5).setCell ⟨q, 6, none⟩ a6).setCell ⟨q, 7, none⟩ a7).setCell ⟨q, 8, none⟩ a8).setCell ⟨q, 9, none⟩ a9).setCell ⟨q, 10, none⟩ a10) q #[a0, a1, a2, a3, a4, a5, a6, a7, a8, a9, a10, b11, b12] := bk_set h10 10 a10
  have h12 : B13 ((((((((((((W.setCell ⟨q, 0, none⟩ a0).setCell ⟨q, 1, none⟩ a1).setCell ⟨q, 2, none⟩ a2).setCell ⟨q, 3, none⟩ a3).setCell ⟨q, 4, none⟩ a4).setCell ⟨q, 5, none⟩ a5).setCell ⟨q, 6, none⟩ a6).setCell ⟨q, 7, none⟩ a7).setCell ⟨q, 8, none⟩ a8).setCell ⟨q, 9, none⟩ a9).setCell ⟨q, 10, none⟩ a10).setCell ⟨q, 11, none⟩ a11) q #[a0, a1, a2, a3, a4, a5, a6, a7, a8, a9, a10, a11, b12] := bk_set h11 11 a11
  have h13 : B13 (((((((((((((W.setCell ⟨q, 0, none⟩ a0).setCell ⟨q, 1, none⟩ a1).setCell ⟨q, 2, none⟩ a2).setCell ⟨q, 3, none⟩ a3).setCell ⟨q, 4, none⟩ a4).setCell ⟨q, 5, none⟩ a5).setCell ⟨q, 6, none⟩ a6).setCell ⟨q, 7, none⟩ a7).setCell ⟨q, 8, none⟩ a8).setCell ⟨q, 9, none⟩ a9).setCell ⟨q, 10, none⟩ a10).setCell ⟨q, 11, none⟩ a11).setCell ⟨q, 12, none⟩ a12) q #[a0, a1, a2, a3, a4, a5, a6, a7, a8, a9, a10, a11, a12] := bk_set h12 12 a12
  exact h13
end Go.Proofs.YtiamggjebaabkaaGreatDoor

namespace Go.Proofs.YtiamggjebaabkaaGreatDoor
open Go.RowKit Go.WideShapes Go.ChangeShapes
set_option linter.unusedVariables false
set_option linter.unusedSimpArgs false

theorem B13.far {w : World} {g k i : Nat} {cs : Array Value} {v : Value} (h : B13 w g cs) (hk : k ≠ g) : B13 (w.setCell ⟨k, i, none⟩ v) g cs := by
  unfold B13 at *
  simp [World.setCell, Array.getElem?_modify, hk, h]
/-- What a time's line answers: its time's error, or that there was one already. -/
def twE (b m : Int) : Int := if b = 0 then (if m + 1 > 1 then 2 else 0) else b

end Go.Proofs.YtiamggjebaabkaaGreatDoor

namespace Go.Proofs.YtiamggjebaabkaaGreatDoor
open Go.RowKit Go.WideShapes Go.ChangeShapes
set_option linter.unusedVariables false
set_option linter.unusedSimpArgs false

theorem Os.five {w : World} {base : Nat} {v : Value} {ls : List (List UInt8)} (h : Os w base v ls) (h5 : ls.length = 5) : ∃ g c, v = .slice (some ⟨g, 0, none⟩) 5 c := by
  rcases h.2 with ⟨hv, hn⟩ | ⟨g, cap, cur, hv, -⟩
  · omega
  · exact ⟨g, cap, by rw [hv, h5]⟩
theorem Os.cell {w : World} {base g n c : Nat} {ls : List (List UInt8)} (h : Os w base (.slice (some ⟨g, 0, none⟩) n c) ls) {j : Nat} {l : List UInt8} (hj : ls[j]? = some l) : w.cell? ⟨g, j, none⟩ = some (sv l) := by
  obtain ⟨A, c', e, hr, -⟩ := h.reads
  injection e with e1 e2 e3
  subst e1
  rcases hr with h0 | ⟨b, off, h1, h2, h3⟩
  · rw [h0] at hj; simp at hj
  · injection h1 with h1
    injection h1 with h1 h4
    subst h1; subst h4
    simpa using h3 j l hj
/-- A digest's line: its error, and its words' numbers. -/
def suE (ls : List (List UInt8)) : Int := if ls.all hxB = true then 0 else 2
def suN (ls : List (List UInt8)) (i : Nat) : Nat := ((ls[i]?).map hxN).getD 0
end Go.Proofs.YtiamggjebaabkaaGreatDoor
