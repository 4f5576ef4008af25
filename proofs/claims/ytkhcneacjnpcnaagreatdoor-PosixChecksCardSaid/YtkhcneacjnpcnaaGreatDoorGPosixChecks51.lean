/- Merged: PosI. -/
import Derived.Test.YtkhcneacjnpcnaaGreatDoorGPosixChecks27
import Derived.Test.YtkhcneacjnpcnaaGreatDoorGPosixChecks26
namespace Go.Proofs.YtkhcneacjnpcnaaGreatDoor
open Go.RowKit Go.WideShapes Go.ChangeShapes Go.Deep
set_option linter.unusedVariables false
section
variable {H : Type} {enc : TypeId × Value → H}
theorem plan_fields : ∃ fs : Array Field, Tryz.prog.underlying 25 = some (.struct fs) ∧ fs.size = 6 ∧ (∃ f, fs[0]? = some f ∧ f.type = 9 ∧ f.offset = 0) ∧ (∃ f, fs[1]? = some f ∧ f.type = 9 ∧ f.offset = 1) ∧ (∃ f, fs[2]? = some f ∧ f.type = 3 ∧ f.offset = 2) ∧ (∃ f, fs[3]? = some f ∧ f.type = 3 ∧ f.offset = 3) ∧ (∃ f, fs[4]? = some f ∧ f.type = 23 ∧ f.offset = 4) ∧ (∃ f, fs[5]? = some f ∧ f.type = 23 ∧ f.offset = 9) :=
  ⟨_, Tryz.underlying25, rfl, ⟨_, rfl, rfl, rfl⟩, ⟨_, rfl, rfl, rfl⟩, ⟨_, rfl, rfl, rfl⟩, ⟨_, rfl, rfl, rfl⟩, ⟨_, rfl, rfl, rfl⟩, ⟨_, rfl, rfl, rfl⟩⟩
theorem fld17_at {W : World} {cs : List Value} {n : Nat} {fs : Array Field} {xs : List (DataW H × List MemPlace)} (hxl : xs.length = fs.size)
    (hf : ∀ (i : Nat) (f : Field), fs[i]? = some f → DataW.trod enc Tryz.prog W 0 (fun _ => true) true n f.type ((cs.drop f.offset).take (Tryz.prog.cellsOf f.type)) = xs[i]?)
    {i o k : Nat} {f : Field} {t : TypeId} (hi : fs[i]? = some f) (ht : f.type = t) (ho : f.offset = o) (hk : Tryz.prog.cellsOf t = k) : ∃ y, DataW.trod enc Tryz.prog W 0 (fun _ => true) true n t ((cs.drop o).take k) = some y := by
  have h := hf i f hi
  rw [ho, ht, hk] at h
  exact ⟨_, h.trans (List.getElem?_eq_getElem (by rw [hxl]; exact (Array.getElem?_eq_some_iff.1 hi).1))⟩
set_option maxRecDepth 100000 in
theorem open_plan {W : World} {fuel : Nat} {cs : List Value} {x : DataW H × List MemPlace} (h : DataW.trod enc Tryz.prog W 0 (fun _ => true) true fuel 25 cs = some x) :
    ∃ a : Pl, cs = a.cells.toList ∧ a.Fit ∧ a.N.length ≤ maxLen ∧ a.S.length ≤ maxLen := by
  obtain ⟨fs, hu, hsz, ⟨f0, u0, t0, o0⟩, ⟨f1, u1, t1, o1⟩, ⟨f2, u2, t2, o2⟩, ⟨f3, u3, t3, o3⟩, ⟨f4, u4, t4, o4⟩, ⟨f5, u5, t5, o5⟩⟩ := plan_fields
  obtain ⟨xs, n, _, _, hlen, hxl, hf⟩ := DataW.trod_struct hu h
  rw [show Tryz.prog.cellsOf 25 = 14 by kernel_rfl] at hlen
  have kS : Tryz.prog.cellsOf 9 = 1 := by kernel_rfl
  have kI : Tryz.prog.cellsOf 3 = 1 := by kernel_rfl
  have kR : Tryz.prog.cellsOf 23 = 5 := by kernel_rfl
  match cs, hlen with
  | [c0, c1, c2, c3, c4, c5, c6, c7, c8, c9, c10, c11, c12, c13], _ =>
    obtain ⟨_, g0⟩ := fld17_at hxl hf u0 t0 o0 kS
    obtain ⟨_, g1⟩ := fld17_at hxl hf u1 t1 o1 kS
    obtain ⟨_, g2⟩ := fld17_at hxl hf u2 t2 o2 kI
    obtain ⟨_, g3⟩ := fld17_at hxl hf u3 t3 o3 kI
    obtain ⟨_, g4⟩ := fld17_at hxl hf u4 t4 o4 kR
    obtain ⟨_, g5⟩ := fld17_at hxl hf u5 t5 o5 kR
    obtain ⟨N, e0, _, z0⟩ := DataW.trod_string Tryz.underlying9 g0
    obtain ⟨S, e1, _, z1⟩ := DataW.trod_string Tryz.underlying9 g1
    obtain ⟨o, rfl, w2⟩ := int16_at g2
    obtain ⟨a, rfl, w3⟩ := int16_at g3
    obtain ⟨B, e4, w4⟩ := open_rule g4
    obtain ⟨E, e5, w5⟩ := open_rule g5
    obtain ⟨b0, b1, b2, b3, b4⟩ := B
    obtain ⟨d0, d1, d2, d3, d4⟩ := E
    have e0' : c0 = .string N := by injection e0
    have e1' : c1 = .string S := by injection e1
    have e4' : [c4, c5, c6, c7, c8] = [.int .i64 b0, .int .i64 b1, .int .i64 b2, .int .i64 b3, .int .i64 b4] := e4
    have e5' : [c9, c10, c11, c12, c13] = [.int .i64 d0, .int .i64 d1, .int .i64 d2, .int .i64 d3, .int .i64 d4] := e5
    simp only [List.cons.injEq, and_true] at e4' e5'
    obtain ⟨rfl, rfl, rfl, rfl, rfl⟩ := e4'
    obtain ⟨rfl, rfl, rfl, rfl, rfl⟩ := e5'
    subst e0'; subst e1'
    refine ⟨⟨N.data.toList, S.data.toList, o, a, ⟨b0, b1, b2, b3, b4⟩, ⟨d0, d1, d2, d3, d4⟩⟩, rfl, ⟨w2, w3, w4, w5⟩, ?_, ?_⟩
    · show N.data.toList.length ≤ _; rw [Array.length_toList]; exact z0
    · show S.data.toList.length ≤ _; rw [Array.length_toList]; exact z1
theorem plan_agg {cs : Array Value} {a : Pl} (h : (Value.agg cs).cells.toList = a.cells.toList) : cs = a.cells := Array.toList_inj.1 h
end
set_option maxHeartbeats 2000000 in
theorem eq_plan (N S : ByteArray) (o a b0 b1 b2 b3 b4 e0 e1 e2 e3 e4 : Int) (w : World) : (Op.equalIn 10000 25 (.agg #[.string N, .string S, .int .i64 o, .int .i64 a, .int .i64 b0, .int .i64 b1, .int .i64 b2, .int .i64 b3, .int .i64 b4, .int .i64 e0, .int .i64 e1, .int .i64 e2, .int .i64 e3, .int .i64 e4]) (.agg #[.string N, .string S, .int .i64 o, .int .i64 a, .int .i64 b0, .int .i64 b1, .int .i64 b2, .int .i64 b3, .int .i64 b4, .int .i64 e0, .int .i64 e1, .int .i64 e2, .int .i64 e3, .int .i64 e4])).run Tryz.prog w = .ok true w := by
  have u3 := Tryz.underlying3
  have a3 := Tryz.isAgg3
  have z3 := Tryz.sizeOf3
  have u4 := Tryz.underlying9
  have a4 := Tryz.isAgg9
  have z4 := Tryz.sizeOf9
  have u5 := Tryz.underlying23
  have a5 := Tryz.isAgg23
  have z5 := Tryz.sizeOf23
  rw [show (10000 : Nat) = 9999 + 1 from rfl, Op.equalIn]
  simp only [Sem.run_bind, run_underlying Tryz.underlying25, Result.andThen_ok]
  go_simp
theorem long17_any (a : Pl) (w : World) (hn : a.N.length ≤ maxLen) (hs : a.S.length ≤ maxLen) :
    Calls Tryz.prog 5 #[.agg a.cells] w fun x w' => x = .returned (.bool (decide (60 < a.N.length) || decide (60 < a.S.length))) ∧ Below w.heap.size w w' := by
  obtain ⟨W0, hW0⟩ : ∃ W0, W0 = w.alloc (.cells a.cells 25) := ⟨_, rfl⟩
  have B0 : Hid (Below w.heap.size w W0) := Lib.hid (by rw [hW0]; exact bel16 w _)
  have L0 : Plk W0 w.heap.size a := by rw [hW0]; exact plk_new _ _
  obtain ⟨c0, c1, c2, c3, c4, c5, c6, c7, c8, c9, c10, c11, c12, c13⟩ := L0.all
  clear L0
  unfold maxLen at hn hs
  have z0 : (⟨a.N.toArray⟩ : ByteArray).size = a.N.length := Lib.size_mk _
  have z1 : (⟨a.S.toArray⟩ : ByteArray).size = a.S.length := Lib.size_mk _
  have d0 : decide (60 < a.N.length) = decide (60 < (⟨a.N.toArray⟩ : ByteArray).size) := by rw [z0]
  have d1 : decide (60 < a.S.length) = decide (60 < (⟨a.S.toArray⟩ : ByteArray).size) := by rw [z1]
  rw [d0, d1]
  rw [← z0] at hn
  rw [← z1] at hs
  clear d0 d1 z0 z1
  generalize (⟨a.N.toArray⟩ : ByteArray) = SN at *
  generalize (⟨a.S.toArray⟩ : ByteArray) = SS at *
  by_cases h : 60 < SN.size
  · rw [decide_eq_true h, Bool.true_or]
    have t1 : decide ((60 : Int) < (SN.size : Int)) = true := decide_eq_true (by omega)
    go_enter Tryz.func5, Tryz.ntmps5
    go_upto_region 1 with fail
    rw [← hW0]; clear hW0
    go_wp2
    go_ret
    exact ⟨rfl, B0.out⟩
  · rw [decide_eq_false h, Bool.false_or]
    have t1 : decide ((60 : Int) < (SN.size : Int)) = false := decide_eq_false (by omega)
    have t2 : decide (60 < SS.size) = decide ((60 : Int) < (SS.size : Int)) := by rw [decide_eq_decide]; omega
    rw [t2]; clear t2
    go_enter Tryz.func5, Tryz.ntmps5
    go_upto_region 1 with fail
    rw [← hW0]; clear hW0
    go_wp2
    go_ret
    exact ⟨rfl, B0.out⟩
end Go.Proofs.YtkhcneacjnpcnaaGreatDoor
