/- FiguresTakes, FiguresSigned. -/
import Derived.Test.YthlampneheoedaaDoorLawA
import Derived.Test.YthlampneheoedaaDoorRefF
namespace Go.Proofs.YthlampneheoedaaDoor
open Go.RowKit
set_option linter.unusedVariables false

theorem tkE_lo (l : List UInt8) (a b : Int) (lim : Nat) : 0 ≤ tkE l a b lim ∧ tkE l a b lim < 100 := by
  rcases tkE_cases l a b lim with h | h | h | h <;> rw [h] <;> decide
theorem whE_lo (l : List UInt8) (a b : Int) (lim : Nat) : 0 ≤ whE l a b lim ∧ whE l a b lim < 100 := by
  unfold whE; split
  · split <;> decide
  · exact tkE_lo _ _ _ _
theorem sgE_lo (l : List UInt8) (m : Int) : 0 ≤ sgE l m ∧ sgE l m < 100 := by
  unfold sgE; split <;> exact whE_lo _ _ _ _

set_option maxRecDepth 100000 in
set_option maxHeartbeats 1600000 in
theorem takes_walk (s : ByteArray) (a b : Int) (w : World) (hs : s.size ≤ maxLen) (ha : fits a) (hb : fits b) (ht : Tab w) :
    Calls Tryd.prog 4 #[.string s, .int .i64 a, .int .i64 b] w fun e w' => e = .returned (.bool true) ∧ Below w.heap.size w w' := by
  have HA := Lib.hid (alive2 w ht)
  have HT := fun w => Lib.hid (ftake_any s a b w hs ha hb)
  have HR := fun w => Lib.hid (rtake_any s a b w hs ha hb)
  have HW := fun w => Lib.hid (fwhole_any s a b w hs ha hb)
  have HX := fun w => Lib.hid (rwhole_any s a b w hs ha hb)
  have E1 := Lib.hid (tkE_lo s.data.toList a b mx)
  have E2 := Lib.hid (whE_lo s.data.toList a b mx)
  generalize tkN s.data.toList a b mx = N1 at *
  generalize tkK s.data.toList a b mx = K1 at *
  generalize tkE s.data.toList a b mx = X1 at *
  generalize whN s.data.toList a b mx = N2 at *
  generalize whE s.data.toList a b mx = X2 at *
  unfold maxLen at hs
  clear ht ha hb
  by_cases h300 : (s.size : Int) > 300
  · clear HT HR HW HX E1 E2
    go_enter Tryd.func4, Tryd.ntmps4
    go_wp2_with (go_at_call 8; refine HA.out.mono ?_; rintro e w1 ⟨rfl, hb1⟩; have B1 := Lib.hid hb1; clear hb1)
    go_ret
    exact ⟨rfl, B1.out⟩
  · go_enter Tryd.func4, Tryd.ntmps4
    go_wp2_with fail
    refine HA.out.mono ?_
    rintro e w1 ⟨rfl, hb1⟩
    have B1 := Lib.hid hb1; clear hb1
    go_wp2_with fail
    refine (HT _).out.mono ?_
    rintro e w' ⟨rfl, rfl⟩
    go_wp2_with fail
    refine (HR _).out.mono ?_
    rintro e w2 ⟨rfl, hb2⟩
    have B2 := Lib.hid (B1.out.trans (hb2.mono B1.out.size)); clear hb2
    go_wp2_with fail
    refine (num_any _ _ E1.out.1 E1.out.2).mono ?_
    rintro e w' ⟨rfl, rfl⟩
    go_wp2_with fail
    refine (HW _).out.mono ?_
    rintro e w' ⟨rfl, rfl⟩
    go_wp2_with fail
    refine (HX _).out.mono ?_
    rintro e w3 ⟨rfl, hb3⟩
    have B3 := Lib.hid (B2.out.trans (hb3.mono B2.out.size)); clear hb3
    go_wp2_with fail
    refine (num_any _ _ E2.out.1 E2.out.2).mono ?_
    rintro e w' ⟨rfl, rfl⟩
    go_wp2_with fail
    go_ret
    exact ⟨rfl, B3.out⟩

set_option maxRecDepth 100000 in
set_option maxHeartbeats 1600000 in
theorem signed_walk (s : ByteArray) (m : Int) (w : World) (hs : s.size ≤ maxLen) (hm : fits m) (ht : Tab w) :
    Calls Tryd.prog 5 #[.string s, .int .i64 m] w fun e w' => e = .returned (.bool true) ∧ Below w.heap.size w w' := by
  have HA := Lib.hid (alive2 w ht)
  have HT := fun w => Lib.hid (signed_any s m w hs hm)
  have HR := fun w => Lib.hid (rsigned_any s m w hs hm)
  have E1 := Lib.hid (sgE_lo s.data.toList m)
  generalize sgN s.data.toList m = N1 at *
  generalize sgE s.data.toList m = X1 at *
  unfold maxLen at hs
  clear ht hm
  by_cases h300 : (s.size : Int) > 300
  · clear HT HR E1
    go_enter Tryd.func5, Tryd.ntmps5
    go_wp2_with (go_at_call 8; refine HA.out.mono ?_; rintro e w1 ⟨rfl, hb1⟩; have B1 := Lib.hid hb1; clear hb1)
    go_ret
    exact ⟨rfl, B1.out⟩
  · go_enter Tryd.func5, Tryd.ntmps5
    go_wp2_with fail
    refine HA.out.mono ?_
    rintro e w1 ⟨rfl, hb1⟩
    have B1 := Lib.hid hb1; clear hb1
    go_wp2_with fail
    refine (HT _).out.mono ?_
    rintro e w' ⟨rfl, rfl⟩
    go_wp2_with fail
    refine (HR _).out.mono ?_
    rintro e w2 ⟨rfl, hb2⟩
    have B2 := Lib.hid (B1.out.trans (hb2.mono B1.out.size)); clear hb2
    go_wp2_with fail
    refine (num_any _ _ E1.out.1 E1.out.2).mono ?_
    rintro e w' ⟨rfl, rfl⟩
    go_wp2_with fail
    go_ret
    exact ⟨rfl, B2.out⟩
end Go.Proofs.YthlampneheoedaaDoor
