/- An array of integers, of whatever length, as an argument: opened. -/
import Derived.Test.YtijopeacgpmicaaDoorErr
import Derived.WideKeyPair
import Derived.OpenShut
namespace Go.Proofs.YtijopeacgpmicaaDoor
open Go.RowKit Go.ChangeShapes Go.WideShapes Go.WideMaps
set_option linter.unusedVariables false

theorem open_arr {H : Type} {enc : TypeId × Value → H} {P : Program} {k e : TypeId} {q : IntKind} {n : Nat} {W : World} {base : Nat} {sp : Nat → Bool} {held : Bool} (ht : P.underlying k = some (.array n e)) (he : P.underlying e = some (.int q)) (h1 : P.cellsOf e = 1) (hc : P.cellsOf k = n)
    {r : Reach} {b0 : Nat} {v : Value} {d : DataW H} {ps : List MemPlace} (hval : Value.okWide P W r b0 k v) (hd : DataW.Trod enc P W base sp held k v d ps) :
    ∃ zs : List Int, zs.length = n ∧ v = .agg (zs.map fun z => Value.int q z).toArray ∧ ∀ z ∈ zs, (Lit.int q z).wf = true := by
  simp only [Value.okWide, ht] at hval
  obtain ⟨cs, rfl, h2, _⟩ := hval
  obtain ⟨fuel, hf⟩ := hd
  obtain ⟨xs, m, rfl, -, hl, hxl, hx⟩ := DataW.trod_array ht hf
  simp only [Value.cells] at hl hx
  rw [hc] at hl
  have key : ∀ i (hi : i < cs.toList.length), ∃ z, cs.toList[i] = .int q z ∧ (Lit.int q z).wf = true := fun i hi => by
    have hin : i < n := by omega
    have h3 := hx i hin
    rw [h1, Nat.mul_one] at h3
    have e1 : (cs.toList.drop i).take 1 = [cs.toList[i]] := by rw [List.drop_eq_getElem_cons hi]; rfl
    rw [e1, List.getElem?_eq_getElem (by omega)] at h3
    obtain ⟨a, ea, -, wa⟩ := DataW.trod_int he h3
    exact ⟨a, by simpa using ea, wa⟩
  have key2 : ∀ u ∈ cs.toList, ∃ z, u = .int q z ∧ (Lit.int q z).wf = true := fun u hu => by
    obtain ⟨i, hi, rfl⟩ := List.getElem_of_mem hu
    exact key i hi
  refine ⟨cs.toList.map intOf, by rw [List.length_map]; exact hl, ?_, fun z hz => ?_⟩
  · rw [List.map_map]
    have e2 : cs.toList.map ((fun z => Value.int q z) ∘ intOf) = cs.toList := by
      conv => rhs; rw [← List.map_id cs.toList]
      refine List.map_congr_left fun u hu => ?_
      obtain ⟨z, rfl, -⟩ := key2 u hu
      rfl
    rw [e2]
  · obtain ⟨u, hu, rfl⟩ := List.mem_map.mp hz
    obtain ⟨z, rfl, hw⟩ := key2 u hu
    exact hw

end Go.Proofs.YtijopeacgpmicaaDoor
