/- A table that the program lays ahead, each row a string and an integer: what a call reads of it. -/
import Derived.Test.YtmfjfbofkkbmiaaDoorErr
import Derived.Lib.LaidTab
import Derived.Lib.SmallJoins
import Derived.ChangeSame
import Derived.OpenShut
namespace Go.Proofs.YtmfjfbofkkbmiaaDoor
open Go.RowKit
set_option linter.unusedVariables false

/-- The table as a row of the statement lists it. -/
def pairData {H : Type} (rows : List (List UInt8 × Int)) : DataW H := .agg (rows.map fun r => .agg [.lit (.string r.1), .lit (.int .i64 r.2)])
/-- The variable's cells: for each row its string, then its integer. -/
def PairsAre (P : Program) (w : World) (name : String) (rows : List (List UInt8 × Int)) : Prop :=
  ∃ cs, w.var? P name = some cs ∧ ∀ (i : Nat) (r : List UInt8 × Int), rows[i]? = some r → cs[2 * i]? = some (.string ⟨r.1.toArray⟩) ∧ cs[2 * i + 1]? = some (.int .i64 r.2)

theorem pairs_of_head {P : Program} {W : World} {name : String} {rows : List (List UInt8 × Int)} {rest : List (String × DataW Unit)} {g n : Nat} {t e : TypeId} {f0 f1 : Field}
    (hg : P.globalNamed name = some g) (hty : (P.globals[g]?).map (·.type) = some t) (ht : P.underlying t = some (.array n e)) (he : P.underlying e = some (.struct #[f0, f1]))
    (h0 : P.underlying f0.type = some .string) (h1 : P.underlying f1.type = some (.int .i64)) (o0 : f0.offset = 0) (o1 : f1.offset = 1) (hce : P.cellsOf e = 2) (c0 : P.cellsOf f0.type = 1) (c1 : P.cellsOf f1.type = 1)
    (h : laidMet P ((name, pairData rows) :: rest) W) : PairsAre P W name rows := by
  obtain ⟨ps, ⟨g', t', cs, fuel, p, q, hg', ht', hvar, hd, _, _⟩, _⟩ := h
  obtain rfl := Option.some.inj (hg.symm.trans hg')
  obtain rfl := Option.some.inj (hty.symm.trans ht')
  refine ⟨cs, hvar, fun i r hr => ?_⟩
  obtain ⟨xs, m, rfl, hx, hl, hn, hi⟩ := DataW.trod_array ht hd
  have hxs : xs.map (·.1) = rows.map fun r => (DataW.agg [.lit (.string r.1), .lit (.int .i64 r.2)] : DataW Unit) := by
    have := congrArg Prod.fst hx
    simpa [pairData] using this.symm
  have hlen : xs.length = rows.length := by simpa using congrArg List.length hxs
  have hir : i < rows.length := by
    rcases Nat.lt_or_ge i rows.length with h | h
    · exact h
    · rw [List.getElem?_eq_none h] at hr; cases hr
  have hy : (xs.map (·.1))[i]? = some (DataW.agg [.lit (.string r.1), .lit (.int .i64 r.2)]) := by rw [hxs]; simp [hr]
  rw [List.getElem?_map, Option.map_eq_some_iff] at hy
  obtain ⟨y, hy, hy1⟩ := hy
  have hd := hi i (by omega)
  rw [hy, hce] at hd
  obtain ⟨y0, y1, k, rfl, hl2, hd0, hd1⟩ := Go.ChangeShapes.trod_struct2 he hd
  rw [o0, c0] at hd0
  rw [o1, c1] at hd1
  obtain ⟨s, es, rfl, _⟩ := DataW.trod_string h0 hd0
  obtain ⟨z, ez, rfl, _⟩ := DataW.trod_int h1 hd1
  simp only [DataW.agg.injEq, List.cons.injEq, DataW.lit.injEq, Lit.string.injEq, Lit.int.injEq, and_true, true_and] at hy1
  obtain ⟨e0, e1⟩ := hy1
  have a0 := congrArg (·[0]?) es
  have a1 := congrArg (·[0]?) ez
  simp [List.getElem?_drop] at a0 a1
  rw [Nat.mul_comm] at a0 a1
  refine ⟨?_, ?_⟩
  · rw [a0]
    congr 2
    rw [← e0]
  · rw [a1, e1]

theorem PairsAre.cells {P : Program} {w : World} {name : String} {rows : List (List UInt8 × Int)} {g : Nat} (h : PairsAre P w name rows) (hg : P.globalNamed name = some g) {i : Nat} {r : List UInt8 × Int} (hr : rows[i]? = some r) :
    w.cell? ⟨g, 2 * i, none⟩ = some (.string ⟨r.1.toArray⟩) ∧ w.cell? ⟨g, 2 * i + 1, none⟩ = some (.int .i64 r.2) := by
  obtain ⟨cs, hv, hc⟩ := h
  obtain ⟨a, b⟩ := hc i r hr
  exact ⟨(World.var?_cell hg hv _).trans a, (World.var?_cell hg hv _).trans b⟩
theorem PairsAre.below {P : Program} {w w' : World} {name : String} {rows : List (List UInt8 × Int)} {g : Nat} (h : PairsAre P w name rows) (hg : P.globalNamed name = some g) (hb : Below w.heap.size w w') : PairsAre P w' name rows := by
  obtain ⟨cs, hv, hc⟩ := h
  exact ⟨cs, Joins.var_stays hg hv hb (Nat.le_refl _), hc⟩
theorem PairsAre.lt {P : Program} {w : World} {name : String} {rows : List (List UInt8 × Int)} {g : Nat} (h : PairsAre P w name rows) (hg : P.globalNamed name = some g) : g < w.heap.size := by
  obtain ⟨cs, hv, -⟩ := h
  unfold World.var? at hv
  rw [hg] at hv
  simp only [Option.bind_some] at hv
  rcases Nat.lt_or_ge g w.heap.size with h' | h'
  · exact h'
  · rw [Array.getElem?_eq_none h'] at hv; cases hv

end Go.Proofs.YtmfjfbofkkbmiaaDoor
