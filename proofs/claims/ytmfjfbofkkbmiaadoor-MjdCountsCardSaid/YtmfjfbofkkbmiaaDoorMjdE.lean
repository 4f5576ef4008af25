/- MjdDays, MjdCounts. -/
import Derived.Test.YtmfjfbofkkbmiaaDoorMjdD
import Derived.Test.YtmfjfbofkkbmiaaDoorMjdR
import Derived.Test.YtmfjfbofkkbmiaaDoorTabs
namespace Go.Proofs.YtmfjfbofkkbmiaaDoor
open Go.RowKit
set_option linter.unusedVariables false

set_option maxRecDepth 100000 in
set_option maxHeartbeats 4000000 in
theorem mdays_walk (k c : Int) (s : ByteArray) (w : World) (he : Eps w) (hc : fits c) (hs : s.size ≤ maxLen) :
    Calls Tryd.prog 4 #[.int .i64 k, .int .i64 c, .string s] w fun e w' => e = .returned (.bool true) ∧ Below w.heap.size w w' := by
  have HA := Lib.hid (malive_any w he)
  have E0 := Lib.hid he
  clear he
  unfold maxLen at hs
  have q0 := fun op t W x k => guard_ev op t W x k
  have q1 := fun W k => eql_ev W k
  by_cases g : (s.size : Int) > 100
  · clear hc
    go_enter Tryd.func4, Tryd.ntmps4
    go_wp2_with fail
    refine HA.out.mono ?_
    rintro e w1 ⟨rfl, hb⟩
    have B1 := Lib.hid hb; clear hb
    go_wp2_with fail
    go_ret
    exact ⟨rfl, B1.out⟩
  · have HD := Lib.hid (fun w he => day7_any k c w he hc)
    have HR := Lib.hid (fun w => rday7_any k c w)
    have HP := Lib.hid (fun w he => parse7_any k s w he hs)
    have HQ := Lib.hid (fun w => rparse7_any k s w hs)
    have e1 := dyE_lo k c
    have e2 := psE_lo k s.data.toList
    clear hc
    generalize dyN k c = n at *
    generalize dyE k c = f at *
    generalize psN k s.data.toList = m at *
    generalize psE k s.data.toList = f' at *
    go_enter Tryd.func4, Tryd.ntmps4
    go_wp2_with fail
    refine HA.out.mono ?_
    rintro e w1 ⟨rfl, hb⟩
    have B1 := Lib.hid hb
    have E1 := Lib.hid (E0.out.below hb); clear hb
    go_wp2_with fail
    refine (HD.out _ E1.out).mono ?_
    rintro e w2 ⟨rfl, hb⟩
    have B2 := Lib.hid (B1.out.trans (hb.mono B1.out.size))
    have E2 := Lib.hid (E1.out.below hb); clear hb
    go_wp2_with fail
    refine (HR.out _).mono ?_
    rintro e w3 ⟨rfl, hb⟩
    have B3 := Lib.hid (B2.out.trans (hb.mono B2.out.size))
    have E3 := Lib.hid (E2.out.below hb); clear hb
    go_wp2_with (go_at_call 12; refine (num_any _ _ e1.1 e1.2).mono ?_; rintro e w' ⟨rfl, rfl⟩)
    refine (HP.out _ E3.out).mono ?_
    rintro e w4 ⟨rfl, hb⟩
    have B4 := Lib.hid (B3.out.trans (hb.mono B3.out.size)); clear hb
    go_wp2_with fail
    refine (HQ.out _).mono ?_
    rintro e w5 ⟨rfl, hb⟩
    have B5 := Lib.hid (B4.out.trans (hb.mono B4.out.size)); clear hb
    go_wp2_with (go_at_call 12; refine (num_any _ _ e2.1 e2.2).mono ?_; rintro e w' ⟨rfl, rfl⟩)
    go_ret
    exact ⟨rfl, B5.out⟩

end Go.Proofs.YtmfjfbofkkbmiaaDoor
