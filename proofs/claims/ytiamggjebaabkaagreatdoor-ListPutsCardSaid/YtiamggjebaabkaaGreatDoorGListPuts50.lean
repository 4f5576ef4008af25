/- Merged: Sent, Tabs, LeapO. -/
import Derived.Test.YtiamggjebaabkaaGreatDoorGListPuts10
import Derived.Stop.LaidErr
import Derived.Test.YtiamggjebaabkaaGreatDoorGListPuts1
import Derived.Test.YtiamggjebaabkaaGreatDoorGListPuts30
import Derived.Test.YtiamggjebaabkaaGreatDoorGListPuts4
import Derived.Deep.Fields
import Derived.Deep.Slices
import Derived.ChangeArms
import Derived.ChangeSame
namespace Go.Proofs.YtiamggjebaabkaaGreatDoor
open Go.RowKit

theorem sent_gs : Tryz.prog.globalNamed "strconv.ErrSyntax" = some 7 := by kernel_rfl
theorem sent_gr : Tryz.prog.globalNamed "strconv.ErrRange" = some 8 := by kernel_rfl
theorem sent_ts : (Tryz.prog.globals[7]?).map (·.type) = some 25 := by kernel_rfl
theorem sent_tr : (Tryz.prog.globals[8]?).map (·.type) = some 25 := by kernel_rfl
theorem sent_ce : Tryz.prog.cellsOf 274 = 1 := by kernel_rfl
theorem sent_cs : Tryz.prog.cellsOf 9 = 1 := by kernel_rfl
theorem sent_star : "*" ++ "errors.errorString" = "*errors.errorString" := by decide
theorem sent_row (u : TypeId) (h : Tryz.prog.typeName? 3 u = some "*errors.errorString") : u = 272 :=
  typeName_ptr_named (nm := "errors.errorString") (by rw [sent_star]; kernel_rfl) (by kernel_rfl) (by decide) u (by rw [sent_star]; exact h)
theorem ge_of {W : World} {x y : List UInt8} {r r' : List (String × DataW Unit)} (h : laidMet Tryz.prog (("strconv.ErrSyntax", .iface "*errors.errorString" (.ptr (.agg [.lit (.string x)]))) :: r) W)
    (k : laidMet Tryz.prog (("strconv.ErrRange", .iface "*errors.errorString" (.ptr (.agg [.lit (.string y)]))) :: r') W) : GE W := by
  obtain ⟨a0, s0, hv0, -, -, -⟩ := laid_sentinel h sent_gs sent_ts Tryz.underlying25 sent_row Tryz.underlying272 Tryz.underlying274 rfl rfl Tryz.underlying9 sent_ce sent_cs
  obtain ⟨a1, s1, hv1, -, -, -⟩ := laid_sentinel k sent_gr sent_tr Tryz.underlying25 sent_row Tryz.underlying272 Tryz.underlying274 rfl rfl Tryz.underlying9 sent_ce sent_cs
  exact ⟨⟨_, by have h0 := World.var?_cell sent_gs hv0 0; simpa using h0, .inr ⟨_, _, rfl⟩⟩, _, by have h0 := World.var?_cell sent_gr hv1 0; simpa using h0, .inr ⟨_, _, rfl⟩⟩

end Go.Proofs.YtiamggjebaabkaaGreatDoor

namespace Go.Proofs.YtiamggjebaabkaaGreatDoor
open Go.RowKit

theorem tabT : Tryz.prog.underlying 248 = some (.array 20 105) := Tryz.underlying248
theorem tabE : Tryz.prog.underlying 105 = some (.int .u64) := Tryz.underlying105
theorem endsT : Tryz.prog.underlying 236 = some (.array 13 3) := Tryz.underlying236
theorem endsE : Tryz.prog.underlying 3 = some (.int .i64) := Tryz.underlying3

end Go.Proofs.YtiamggjebaabkaaGreatDoor

namespace Go.Proofs.YtiamggjebaabkaaGreatDoor
open Go.RowKit Go.WideShapes Go.ChangeShapes Go.Deep
set_option linter.unusedVariables false
section
variable {H : Type} {enc : TypeId × Value → H}

def inOf : Option Value → Int
  | some (.int _ z) => z
  | _ => 0
theorem row_fields : ∃ f0 f1 : Field, Tryz.prog.underlying 70 = some (.struct #[f0, f1]) ∧ f0.type = 2 ∧ f1.type = 3 ∧ f0.offset = 0 ∧ f1.offset = 1 :=
  ⟨_, _, Tryz.underlying70, rfl, rfl, by kernel_rfl, by kernel_rfl⟩
theorem raw_fields : ∃ f0 f1 f2 : Field, Tryz.prog.underlying 44 = some (.struct #[f0, f1, f2]) ∧ f0.type = 42 ∧ f1.type = 2 ∧ f2.type = 2 ∧ oneCellFields Tryz.prog #[f0, f1, f2] = true :=
  ⟨_, _, _, Tryz.underlying44, rfl, rfl, rfl, by kernel_rfl⟩
/-- A row's two cells. -/
theorem row_cells {W : World} {n : Nat} {cs : List Value} {y : DataW H × List MemPlace} (h : DataW.trod enc Tryz.prog W 0 (fun _ => true) true n 70 cs = some y) : ∃ a b : Int, cs = [.int .i64 a, .int .i64 b] := by
  obtain ⟨f0, f1, hu, t0, t1, o0, o1⟩ := row_fields
  obtain ⟨y0, y1, k, rfl, hl2, hd0, hd1⟩ := Go.ChangeShapes.trod_struct2 hu h
  rw [show Tryz.prog.cellsOf 70 = 2 by kernel_rfl] at hl2
  rw [o0, t0, show Tryz.prog.cellsOf 2 = 1 by kernel_rfl] at hd0
  rw [o1, t1, show Tryz.prog.cellsOf 3 = 1 by kernel_rfl] at hd1
  obtain ⟨z, ez, _⟩ := DataW.trod_int Tryz.underlying2 hd0
  obtain ⟨z', ez', _⟩ := DataW.trod_int Tryz.underlying3 hd1
  match cs, hl2 with
  | [c0, c1], _ =>
    simp at ez ez'
    exact ⟨z, z', by rw [ez, ez']⟩
theorem open_rows {W : World} {fuel : Nat} {v : Value} {x : DataW H × List MemPlace} (hf : DataW.trod enc Tryz.prog W 0 (fun _ => true) true fuel 42 [v] = some x) :
    ∃ (A : Option Addr) (c : Nat) (L : List Rw), v = .slice A L.length c ∧ Rp W.heap.size W A L ∧ (A = none → c = 0 ∧ L = []) ∧ L.length ≤ c ∧ c ≤ maxLen := by
  rcases open_slice Tryz.underlying42 hf with ⟨hcs, _⟩ | ⟨a, len, cap, m, n, D, Pl, hcs, _, hl, hm, hmm, _, hi⟩
  · obtain rfl : v = .slice none 0 0 := by simpa using hcs
    exact ⟨none, 0, [], rfl, .inl rfl, fun _ => ⟨rfl, rfl⟩, Nat.le_refl _, Nat.zero_le _⟩
  · obtain rfl : v = .slice (some a) len cap := by simpa using hcs
    simp only [if_true] at hmm
    subst hmm
    rw [show Tryz.prog.cellsOf 70 = 2 by kernel_rfl] at hi
    have key : ∀ i, i < len → W.cell? (a.add (i * 2)) = some (.int .i64 (inOf (W.cell? (a.add (i * 2))))) ∧ W.cell? ((a.add (i * 2)).add 1) = some (.int .i64 (inOf (W.cell? ((a.add (i * 2)).add 1)))) := by
      intro i hil
      obtain ⟨cs', hc, ht⟩ := hi i (by omega)
      obtain ⟨p, q, rfl⟩ := row_cells ht
      obtain ⟨_, hcl, hat⟩ := World.cells?_some hc
      have h0 := hat 0 (by omega)
      have h1 := hat 1 (by omega)
      have e0 : W.cell? (a.add (i * 2)) = some (.int .i64 p) := by simpa [Addr.add] using h0
      have e1 : W.cell? ((a.add (i * 2)).add 1) = some (.int .i64 q) := by simpa using h1
      rw [e0, e1]
      exact ⟨rfl, rfl⟩
    refine ⟨some a, m, (List.range len).map fun i => ⟨inOf (W.cell? (a.add (i * 2))), inOf (W.cell? ((a.add (i * 2)).add 1))⟩, by simp, ?_, (fun h => by cases h), by simpa using hl, hm⟩
    by_cases h0 : len = 0
    · subst h0; exact .inl rfl
    · right
      obtain ⟨b, off, spot⟩ := a
      have hspot : spot = none := by simpa [Addr.add] using World.cell?_spot (key 0 (by omega)).1
      subst hspot
      have hb := World.block_lt_of_cell? W _ (key 0 (by omega)).1
      refine ⟨b, off, rfl, by simpa [Addr.add] using hb, by simpa [Addr.add] using hb, fun j hj => ?_⟩
      have hjl : j < len := by simpa using hj
      obtain ⟨k0, k1⟩ := key j hjl
      rw [add_plain] at k0
      rw [add_plain, add_plain] at k1
      unfold rd ro
      simp only [List.getD, List.getElem?_map, List.getElem?_range hjl, Option.map_some, Option.getD_some]
      rw [add_plain, add_plain]
      exact ⟨k0, k1⟩
set_option maxRecDepth 100000 in
theorem open_raw {W : World} {fuel : Nat} {cs : List Value} {x : DataW H × List MemPlace} (h : DataW.trod enc Tryz.prog W 0 (fun _ => true) true fuel 44 cs = some x) :
    ∃ (A : Option Addr) (c : Nat) (L : List Rw) (u e : Int), cs = [.slice A L.length c, .int .i64 u, .int .i64 e] ∧ Rp W.heap.size W A L ∧ (A = none → c = 0 ∧ L = []) ∧ L.length ≤ c ∧ c ≤ maxLen := by
  obtain ⟨f0, f1, f2, hu, t0, t1, t2, hone⟩ := raw_fields
  obtain ⟨xs, n, _, _, hlen, hxl, hf⟩ := DataW.trod_struct hu h
  rw [show Tryz.prog.cellsOf 44 = 3 by kernel_rfl] at hlen
  match cs, hlen with
  | [c0, c1, c2], _ =>
    have fld : ∀ (i : Nat) (f : Field) (c : Value), (#[f0, f1, f2] : Array Field)[i]? = some f → [c0, c1, c2][i]? = some c → ∃ y, DataW.trod enc Tryz.prog W 0 (fun _ => true) true n f.type [c] = some y := by
      intro i f c hi hc
      obtain ⟨o, k⟩ := hone_of hone i f hi
      have h := hf i f hi
      rw [o, k] at h
      obtain ⟨hlt, hce⟩ := List.getElem?_eq_some_iff.1 hc
      have e : ([c0, c1, c2].drop i).take 1 = [c] := by rw [List.drop_eq_getElem_cons hlt, hce]; rfl
      rw [e] at h
      have hx : xs[i]? = some (xs[i]'(by rw [hxl]; exact (Array.getElem?_eq_some_iff.1 hi).1)) := List.getElem?_eq_getElem _
      exact ⟨_, h.trans hx⟩
    obtain ⟨_, g0⟩ := fld 0 f0 c0 rfl rfl
    obtain ⟨_, g1⟩ := fld 1 f1 c1 rfl rfl
    obtain ⟨_, g2⟩ := fld 2 f2 c2 rfl rfl
    rw [t0] at g0
    rw [t1] at g1
    rw [t2] at g2
    obtain ⟨A, c, L, rfl, k1, k2, k3, k4⟩ := open_rows g0
    obtain ⟨u, e1, _⟩ := DataW.trod_int Tryz.underlying2 g1
    obtain ⟨e, e2, _⟩ := DataW.trod_int Tryz.underlying2 g2
    injection e1 with e1 _
    injection e2 with e2 _
    subst e1; subst e2
    exact ⟨A, c, L, u, e, rfl, k1, k2, k3, k4⟩
theorem raw_agg {cs : Array Value} {a b c : Value} (h : (Value.agg cs).cells.toList = [a, b, c]) : cs = #[a, b, c] := Array.toList_inj.1 h
end
end Go.Proofs.YtiamggjebaabkaaGreatDoor
