/- LabelChecks. Written by gen_labq.py. -/
import Derived.Test.YtlnijcfgkhbfhaaDoorLabP
import Derived.Test.YtlnijcfgkhbfhaaDoorLabH
import Derived.Test.YtlnijcfgkhbfhaaDoorTabs
namespace Go.Proofs.YtlnijcfgkhbfhaaDoor
open Go.RowKit
set_option linter.unusedVariables false

set_option maxRecDepth 100000 in
set_option maxHeartbeats 4000000 in
theorem lchecks_ok (l : Lb) (w : World) (he : Ends w) (hz : lbE l = 0) :
    Calls Tryd.prog 3 #[.agg l.cells] w fun e w' => e = .returned (.bool true) ∧ Below w.heap.size w w' := by
  obtain ⟨W0, hW0⟩ : ∃ W0, W0 = w.alloc (.cells l.cells 23) := ⟨_, rfl⟩
  have B0 : Hid (Below w.heap.size w W0) := Lib.hid (by rw [hW0]; exact bel_new w _)
  have L0 : Lk 23 W0 w.heap.size l := by rw [hW0]; exact lk_new _ _ _
  have P0 := Lib.hid L0
  have E0 := Lib.hid (he.below B0.out)
  obtain ⟨c0, c1, c2, c3, c4, c5, c6, c7⟩ := L0.all
  have HA := Lib.hid (fun w he => lalive_any w he)
  have hS := fun w he => lsplit_any l w he
  have HD := Lib.hid (fun w => ldoc_any l w)
  have hR := fun w => lrsplit_any l w
  have hC := fun w he => lcheck_any l w he
  have hL := fun w he => lleap_any l w he
  rw [hz] at hS hR hC hL
  have eb : (0 : Int) ≤ 0 ∧ (0 : Int) < 100 := by decide
  obtain ⟨b, hb⟩ : ∃ b, b = (l.s == 60) := ⟨_, rfl⟩
  have e1 : decide ((0 : Int) = 0 ∧ l.s = 60) = b := by
    rw [hb]; by_cases a : l.s = 60
    · rw [decide_eq_true ⟨rfl, a⟩, a]; rfl
    · rw [decide_eq_false (fun h => a h.2), beq_eq_false_iff_ne.2 a]
  rw [e1] at hL
  have b1 := hb.symm
  clear e1 hb
  change ∀ w, Calls _ _ _ w fun e w' => e = .returned (.tuple #[.int .i64 (lbN l), .int .i64 (lbT l), .int .i64 0]) ∧ _ at hR
  have HS := Lib.hid hS; have HR := Lib.hid hR; have HC := Lib.hid hC; have HL := Lib.hid hL
  clear L0 he hS hR hC hL hz
  generalize lbN l = N at *
  generalize lbT l = T at *
  cases b
  all_goals
    go_enter Tryd.func3, Tryd.ntmps3
    go_upto_region 1 with fail
    rw [← hW0]; clear hW0
    go_wp2_with fail
    refine (HA.out _ E0.out).mono ?_
    rintro e w1 ⟨rfl, hb⟩
    have P1 := Lib.hid (P0.out.keep hb)
    have B1 := Lib.hid (B0.out.trans (hb.mono B0.out.size))
    have E1 := Lib.hid (E0.out.below hb)
    clear hb c0 c1 c2 c3 c4 c5 c6 c7
    obtain ⟨c0, c1, c2, c3, c4, c5, c6, c7⟩ := P1.out.all
    go_wp2_with fail
    refine (HS.out _ E1.out).mono ?_
    rintro e w2 ⟨rfl, hb⟩
    have P2 := Lib.hid (P1.out.keep hb)
    have B2 := Lib.hid (B1.out.trans (hb.mono B1.out.size))
    have E2 := Lib.hid (E1.out.below hb)
    clear hb c0 c1 c2 c3 c4 c5 c6 c7
    obtain ⟨c0, c1, c2, c3, c4, c5, c6, c7⟩ := P2.out.all
    go_wp2_with fail
    refine (HD.out _).mono ?_
    rintro e w3 ⟨rfl, hb⟩
    have P3 := Lib.hid (P2.out.keep hb)
    have B3 := Lib.hid (B2.out.trans (hb.mono B2.out.size))
    have E3 := Lib.hid (E2.out.below hb)
    clear hb c0 c1 c2 c3 c4 c5 c6 c7
    obtain ⟨c0, c1, c2, c3, c4, c5, c6, c7⟩ := P3.out.all
    go_wp2_with fail
    refine (HR.out _).mono ?_
    rintro e w4 ⟨rfl, hb⟩
    have P4 := Lib.hid (P3.out.keep hb)
    have B4 := Lib.hid (B3.out.trans (hb.mono B3.out.size))
    have E4 := Lib.hid (E3.out.below hb)
    clear hb c0 c1 c2 c3 c4 c5 c6 c7
    obtain ⟨c0, c1, c2, c3, c4, c5, c6, c7⟩ := P4.out.all
    go_wp2_with (go_at_call 12; refine (num_any _ _ eb.1 eb.2).mono ?_; rintro e w' ⟨rfl, rfl⟩)
    refine (HC.out _ E4.out).mono ?_
    rintro e w5 ⟨rfl, hb⟩
    have P5 := Lib.hid (P4.out.keep hb)
    have B5 := Lib.hid (B4.out.trans (hb.mono B4.out.size))
    have E5 := Lib.hid (E4.out.below hb)
    clear hb c0 c1 c2 c3 c4 c5 c6 c7
    obtain ⟨c0, c1, c2, c3, c4, c5, c6, c7⟩ := P5.out.all
    go_wp2_with (go_at_call 12; refine (num_any _ _ eb.1 eb.2).mono ?_; rintro e w' ⟨rfl, rfl⟩)
    refine (HL.out _ E5.out).mono ?_
    rintro e w6 ⟨rfl, hb⟩
    have P6 := Lib.hid (P5.out.keep hb)
    have B6 := Lib.hid (B5.out.trans (hb.mono B5.out.size))
    have E6 := Lib.hid (E5.out.below hb)
    clear hb c0 c1 c2 c3 c4 c5 c6 c7
    obtain ⟨c0, c1, c2, c3, c4, c5, c6, c7⟩ := P6.out.all
    go_wp2_with fail
    go_ret
    exact ⟨rfl, B6.out⟩

set_option maxRecDepth 100000 in
set_option maxHeartbeats 4000000 in
theorem lchecks_no (l : Lb) (w : World) (he : Ends w) (hz : lbE l ≠ 0) :
    Calls Tryd.prog 3 #[.agg l.cells] w fun e w' => e = .returned (.bool true) ∧ Below w.heap.size w w' := by
  obtain ⟨W0, hW0⟩ : ∃ W0, W0 = w.alloc (.cells l.cells 23) := ⟨_, rfl⟩
  have B0 : Hid (Below w.heap.size w W0) := Lib.hid (by rw [hW0]; exact bel_new w _)
  have L0 : Lk 23 W0 w.heap.size l := by rw [hW0]; exact lk_new _ _ _
  have P0 := Lib.hid L0
  have E0 := Lib.hid (he.below B0.out)
  obtain ⟨c0, c1, c2, c3, c4, c5, c6, c7⟩ := L0.all
  have HA := Lib.hid (fun w he => lalive_any w he)
  have hS := fun w he => lsplit_any l w he
  have HD := Lib.hid (fun w => ldoc_any l w)
  have hR := fun w => lrsplit_any l w
  have hC := fun w he => lcheck_any l w he
  have hL := fun w he => lleap_any l w he
  rw [decide_eq_false (fun h => hz h.1)] at hL
  have eb := lbE_lo l
  have b1 : (lbE l == 0) = false := beq_eq_false_iff_ne.2 hz
  change ∀ w, Calls _ _ _ w fun e w' => e = .returned (.tuple #[.int .i64 (lbN l), .int .i64 (lbT l), .int .i64 (lbE l)]) ∧ _ at hR
  have HS := Lib.hid hS; have HR := Lib.hid hR; have HC := Lib.hid hC; have HL := Lib.hid hL
  clear L0 he hS hR hC hL hz
  generalize lbN l = N at *
  generalize lbT l = T at *
  generalize lbE l = E at *
  go_enter Tryd.func3, Tryd.ntmps3
  go_upto_region 1 with fail
  rw [← hW0]; clear hW0
  go_wp2_with fail
  refine (HA.out _ E0.out).mono ?_
  rintro e w1 ⟨rfl, hb⟩
  have P1 := Lib.hid (P0.out.keep hb)
  have B1 := Lib.hid (B0.out.trans (hb.mono B0.out.size))
  have E1 := Lib.hid (E0.out.below hb)
  clear hb c0 c1 c2 c3 c4 c5 c6 c7
  obtain ⟨c0, c1, c2, c3, c4, c5, c6, c7⟩ := P1.out.all
  go_wp2_with fail
  refine (HS.out _ E1.out).mono ?_
  rintro e w2 ⟨rfl, hb⟩
  have P2 := Lib.hid (P1.out.keep hb)
  have B2 := Lib.hid (B1.out.trans (hb.mono B1.out.size))
  have E2 := Lib.hid (E1.out.below hb)
  clear hb c0 c1 c2 c3 c4 c5 c6 c7
  obtain ⟨c0, c1, c2, c3, c4, c5, c6, c7⟩ := P2.out.all
  go_wp2_with fail
  refine (HD.out _).mono ?_
  rintro e w3 ⟨rfl, hb⟩
  have P3 := Lib.hid (P2.out.keep hb)
  have B3 := Lib.hid (B2.out.trans (hb.mono B2.out.size))
  have E3 := Lib.hid (E2.out.below hb)
  clear hb c0 c1 c2 c3 c4 c5 c6 c7
  obtain ⟨c0, c1, c2, c3, c4, c5, c6, c7⟩ := P3.out.all
  go_wp2_with fail
  refine (HR.out _).mono ?_
  rintro e w4 ⟨rfl, hb⟩
  have P4 := Lib.hid (P3.out.keep hb)
  have B4 := Lib.hid (B3.out.trans (hb.mono B3.out.size))
  have E4 := Lib.hid (E3.out.below hb)
  clear hb c0 c1 c2 c3 c4 c5 c6 c7
  obtain ⟨c0, c1, c2, c3, c4, c5, c6, c7⟩ := P4.out.all
  go_wp2_with (go_at_call 12; refine (num_any _ _ eb.1 eb.2).mono ?_; rintro e w' ⟨rfl, rfl⟩)
  refine (HC.out _ E4.out).mono ?_
  rintro e w5 ⟨rfl, hb⟩
  have P5 := Lib.hid (P4.out.keep hb)
  have B5 := Lib.hid (B4.out.trans (hb.mono B4.out.size))
  have E5 := Lib.hid (E4.out.below hb)
  clear hb c0 c1 c2 c3 c4 c5 c6 c7
  obtain ⟨c0, c1, c2, c3, c4, c5, c6, c7⟩ := P5.out.all
  go_wp2_with (go_at_call 12; refine (num_any _ _ eb.1 eb.2).mono ?_; rintro e w' ⟨rfl, rfl⟩)
  refine (HL.out _ E5.out).mono ?_
  rintro e w6 ⟨rfl, hb⟩
  have P6 := Lib.hid (P5.out.keep hb)
  have B6 := Lib.hid (B5.out.trans (hb.mono B5.out.size))
  have E6 := Lib.hid (E5.out.below hb)
  clear hb c0 c1 c2 c3 c4 c5 c6 c7
  obtain ⟨c0, c1, c2, c3, c4, c5, c6, c7⟩ := P6.out.all
  go_wp2_with fail
  go_ret
  exact ⟨rfl, B6.out⟩

theorem lchecks_walk (l : Lb) (w : World) (he : Ends w) :
    Calls Tryd.prog 3 #[.agg l.cells] w fun e w' => e = .returned (.bool true) ∧ Below w.heap.size w w' := by
  by_cases h : lbE l = 0
  · exact lchecks_ok l w he h
  · exact lchecks_no l w he h

end Go.Proofs.YtlnijcfgkhbfhaaDoor
