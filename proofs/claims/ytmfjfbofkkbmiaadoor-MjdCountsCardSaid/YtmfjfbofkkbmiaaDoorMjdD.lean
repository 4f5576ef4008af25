/- The fixed fact. -/
import Derived.Test.YtmfjfbofkkbmiaaDoorMjdC
import Derived.Test.YtmfjfbofkkbmiaaDoorTabs
namespace Go.Proofs.YtmfjfbofkkbmiaaDoor
open Go.RowKit
set_option linter.unusedVariables false

theorem malive_any (w : World) (he : Eps w) : Calls Tryd.prog 7 #[] w fun e w' => e = .returned (.bool true) ∧ Below w.heap.size w w' := by
  have hD := day7_any 1 0 w he (by decide)
  have hC := fun w he => count7_any 1 0 w he
  rw [show dyN 1 0 = -40587 by decide +kernel, show dyE 1 0 = 0 by decide +kernel] at hD
  rw [show ctN 1 0 = 40587 by decide +kernel, show ctE 1 0 = 0 by decide +kernel] at hC
  have HD := Lib.hid hD; have HC := Lib.hid hC; have E0 := Lib.hid he
  clear hD hC he
  have q0 := fun op t W x k => guard_ev op t W x k
  have q1 := fun W k => eql_ev W k
  go_enter Tryd.func7, Tryd.ntmps7
  go_wp2_with fail
  refine HD.out.mono ?_
  rintro e w1 ⟨rfl, hb⟩
  have B1 := Lib.hid hb
  have E1 := Lib.hid (E0.out.below hb); clear hb
  go_wp2_with fail
  refine (HC.out _ E1.out).mono ?_
  rintro e w2 ⟨rfl, hb⟩
  have B2 := Lib.hid (B1.out.trans (hb.mono B1.out.size)); clear hb
  go_wp2_with fail
  go_ret
  exact ⟨rfl, B2.out⟩

end Go.Proofs.YtmfjfbofkkbmiaaDoor
