/- Merged: Tabs, RulR. -/
import Derived.Test.YtkhcneacjnpcnaaGreatDoorGPosixChecks3
import Derived.Test.YtkhcneacjnpcnaaGreatDoorGPosixChecks23
import Derived.Test.YtkhcneacjnpcnaaGreatDoorGPosixChecks9
import Derived.Deep.Fields
import Derived.ChangeArms
import Derived.ChangeSame
namespace Go.Proofs.YtkhcneacjnpcnaaGreatDoor
open Go.RowKit

theorem tabT : Tryz.prog.underlying 127 = some (.array 20 109) := Tryz.underlying127
theorem tabE : Tryz.prog.underlying 109 = some (.int .u64) := Tryz.underlying109
end Go.Proofs.YtkhcneacjnpcnaaGreatDoor

namespace Go.Proofs.YtkhcneacjnpcnaaGreatDoor
open Go.RowKit Go.WideShapes Go.ChangeShapes Go.Deep
set_option linter.unusedVariables false
section
variable {H : Type} {enc : TypeId × Value → H}

theorem rule_fields : ∃ fs : Array Field, Tryz.prog.underlying 23 = some (.struct fs) ∧ oneCellFields Tryz.prog fs = true ∧ fs.size = 5 ∧ (∃ f, fs[0]? = some f ∧ f.type = 3) ∧ (∃ f, fs[1]? = some f ∧ f.type = 3) ∧
    (∃ f, fs[2]? = some f ∧ f.type = 3) ∧ (∃ f, fs[3]? = some f ∧ f.type = 3) ∧ (∃ f, fs[4]? = some f ∧ f.type = 3) :=
  ⟨_, Tryz.underlying23, by kernel_rfl, rfl, ⟨_, rfl, rfl⟩, ⟨_, rfl, rfl⟩, ⟨_, rfl, rfl⟩, ⟨_, rfl, rfl⟩, ⟨_, rfl, rfl⟩⟩
theorem fld16_at {W : World} {cs : List Value} {n : Nat} {fs : Array Field} {xs : List (DataW H × List MemPlace)} (hone : oneCellFields Tryz.prog fs = true) (hxl : xs.length = fs.size)
    (hf : ∀ (i : Nat) (f : Field), fs[i]? = some f → DataW.trod enc Tryz.prog W 0 (fun _ => true) true n f.type ((cs.drop f.offset).take (Tryz.prog.cellsOf f.type)) = xs[i]?)
    {i : Nat} {f : Field} {t : TypeId} {c : Value} (hi : fs[i]? = some f) (ht : f.type = t) (hc : cs[i]? = some c) : ∃ y, DataW.trod enc Tryz.prog W 0 (fun _ => true) true n t [c] = some y := by
  obtain ⟨o, k⟩ := hone_of hone i f hi
  have h := hf i f hi
  rw [o, k, ht] at h
  obtain ⟨hlt, hce⟩ := List.getElem?_eq_some_iff.1 hc
  have e : (cs.drop i).take 1 = [c] := by rw [List.drop_eq_getElem_cons hlt, hce]; rfl
  rw [e] at h
  have hx : xs[i]? = some (xs[i]'(by rw [hxl]; exact (Array.getElem?_eq_some_iff.1 hi).1)) := List.getElem?_eq_getElem _
  exact ⟨_, h.trans hx⟩
theorem int16_at {W : World} {n : Nat} {c : Value} {y : DataW H × List MemPlace} (g : DataW.trod enc Tryz.prog W 0 (fun _ => true) true n 3 [c] = some y) : ∃ a : Int, c = .int .i64 a ∧ fits a := by
  obtain ⟨a, e, _, w⟩ := DataW.trod_int Tryz.underlying3 g
  injection e with e _
  exact ⟨a, e, wf_fits w⟩
set_option maxRecDepth 100000 in
theorem open_rule {W : World} {fuel : Nat} {cs : List Value} {x : DataW H × List MemPlace} (h : DataW.trod enc Tryz.prog W 0 (fun _ => true) true fuel 23 cs = some x) :
    ∃ a : Ru, cs = a.cells.toList ∧ a.Fit := by
  obtain ⟨fs, hu, hone, hsz, ⟨f0, u0, t0⟩, ⟨f1, u1, t1⟩, ⟨f2, u2, t2⟩, ⟨f3, u3, t3⟩, ⟨f4, u4, t4⟩⟩ := rule_fields
  obtain ⟨xs, n, _, _, hlen, hxl, hf⟩ := DataW.trod_struct hu h
  rw [show Tryz.prog.cellsOf 23 = 5 by kernel_rfl] at hlen
  match cs, hlen with
  | [c0, c1, c2, c3, c4], _ =>
    obtain ⟨_, g0⟩ := fld16_at hone hxl hf u0 t0 (c := c0) rfl
    obtain ⟨_, g1⟩ := fld16_at hone hxl hf u1 t1 (c := c1) rfl
    obtain ⟨_, g2⟩ := fld16_at hone hxl hf u2 t2 (c := c2) rfl
    obtain ⟨_, g3⟩ := fld16_at hone hxl hf u3 t3 (c := c3) rfl
    obtain ⟨_, g4⟩ := fld16_at hone hxl hf u4 t4 (c := c4) rfl
    obtain ⟨a0, rfl, w0⟩ := int16_at g0
    obtain ⟨a1, rfl, w1⟩ := int16_at g1
    obtain ⟨a2, rfl, w2⟩ := int16_at g2
    obtain ⟨a3, rfl, w3⟩ := int16_at g3
    obtain ⟨a4, rfl, w4⟩ := int16_at g4
    exact ⟨⟨a0, a1, a2, a3, a4⟩, rfl, ⟨w0, w1, w2, w3, w4⟩⟩
end

end Go.Proofs.YtkhcneacjnpcnaaGreatDoor
