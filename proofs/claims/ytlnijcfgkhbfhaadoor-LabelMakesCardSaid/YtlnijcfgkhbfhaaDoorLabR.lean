/- LabelMakes. Written by gen_labr.py. -/
import Derived.Test.YtlnijcfgkhbfhaaDoorLabP
import Derived.Test.YtlnijcfgkhbfhaaDoorLabL
import Derived.Test.YtlnijcfgkhbfhaaDoorTabs
namespace Go.Proofs.YtlnijcfgkhbfhaaDoor
open Go.RowKit
set_option linter.unusedVariables false

set_option maxRecDepth 100000 in
set_option maxHeartbeats 8000000 in
theorem lmakes_a (n t nn o : Int) (ht : (t < 0)) (w : World) (he : Ends w) :
    Calls Tryd.prog 5 #[.int .i64 n, .int .i64 t, .agg #[.int .i64 nn, .int .i64 o]] w fun e w' => e = .returned (.bool true) ∧ Below w.heap.size w w' := by
  obtain ⟨W0, hW0⟩ : ∃ W0, W0 = w.alloc (.cells #[.int .i64 nn, .int .i64 o] 42) := ⟨_, rfl⟩
  have B : Hid (Below w.heap.size w W0) := Lib.hid (by rw [hW0]; exact bel_new w _)
  have Q : Hid (W0.heap[w.heap.size]? = some (.cells #[.int .i64 nn, .int .i64 o] 42 (0, 0))) := Lib.hid (by rw [hW0]; exact heap_alloc_new _ _)
  have E := Lib.hid (he.below B.out)
  have HA := Lib.hid (fun w he => lalive_any w he)
  clear he
  obtain ⟨L, hL⟩ := mk_ex n t nn o
  have hO := fun w he => lof_any n t nn o w he hL
  have hR := fun w => lrof_any n t nn o w hL
  change ∀ w, Ends w → Calls _ _ _ w fun e w' => e = .returned (.tuple #[.agg #[.int .i64 L.y, .int .i64 L.m, .int .i64 L.d, .int .i64 L.h, .int .i64 L.i, .int .i64 L.s, .int .i64 L.n, .int .i64 L.o], _]) ∧ _ at hO
  change ∀ w, Calls _ _ _ w fun e w' => e = .returned (.tuple #[.agg #[.int .i64 L.y, .int .i64 L.m, .int .i64 L.d, .int .i64 L.h, .int .i64 L.i, .int .i64 L.s, .int .i64 L.n, .int .i64 L.o], _]) ∧ _ at hR
  have HO := Lib.hid hO; have HR := Lib.hid hR
  have EB := Lib.hid (mkE_lo n t nn o)
  have hC := fun w => clock_no t w (by unfold ckB; omega)
  have d1 : decide (t < 0) = true := decide_eq_true ht
  have HC := Lib.hid hC
  have qd := fun w => eq_doc L.y L.m L.d L.h L.i L.s L.n L.o w
  have q1 := fun W k => eql_ev W k
  have q0 := fun op t W x k => guard_ev op t W x k
  clear hL hO hR hC ht
  generalize mkE n t nn o = F at *
  go_enter Tryd.func5, Tryd.ntmps5
  go_upto_region 1 with fail
  rw [← hW0]; clear hW0
  go_wp2_with fail
  refine (HA.out _ E.out).mono ?_
  rintro e w1 ⟨rfl, hb⟩
  have Q := Lib.hid ((hb.block _ (bk_lt Q.out)).trans Q.out)
  have B := Lib.hid (B.out.trans (hb.mono B.out.size))
  have E := Lib.hid (E.out.below hb)
  clear hb
  have k0 := bk_cell Q.out 0; have k1 := bk_cell Q.out 1
  go_wp2_with fail
  refine (HO.out _ E.out).mono ?_
  rintro e w2 ⟨rfl, hb⟩
  have Q := Lib.hid ((hb.block _ (bk_lt Q.out)).trans Q.out)
  have B := Lib.hid (B.out.trans (hb.mono B.out.size))
  have E := Lib.hid (E.out.below hb)
  clear hb
  clear k0 k1
  go_upto_region 4 with fail
  obtain ⟨X2, hX⟩ : ∃ X, X = w2.alloc (.cells #[.int .i64 L.y, .int .i64 L.m, .int .i64 L.d, .int .i64 L.h, .int .i64 L.i, .int .i64 L.s, .int .i64 L.n, .int .i64 L.o] 23) := ⟨_, rfl⟩
  rw [← hX]
  have hb : Below w2.heap.size w2 X2 := by rw [hX]; exact bel_new _ _
  have Pa : Hid (Lk 23 X2 w2.heap.size L) := Lib.hid (by rw [hX]; exact lk_new _ _ L)
  have Q := Lib.hid ((hb.block _ (bk_lt Q.out)).trans Q.out)
  have B := Lib.hid (B.out.trans (hb.mono B.out.size))
  have E := Lib.hid (E.out.below hb)
  clear hb hX
  obtain ⟨ga, hg⟩ : ∃ g, g = w2.heap.size := ⟨_, rfl⟩
  rw [← hg] at Pa ⊢
  clear hg
  have k0 := bk_cell Q.out 0; have k1 := bk_cell Q.out 1
  go_wp2_with fail
  refine (HR.out _).mono ?_
  rintro e w3 ⟨rfl, hb⟩
  have Pa := Lib.hid (Pa.out.keep hb)
  have Q := Lib.hid ((hb.block _ (bk_lt Q.out)).trans Q.out)
  have B := Lib.hid (B.out.trans (hb.mono B.out.size))
  have E := Lib.hid (E.out.below hb)
  clear hb
  clear k0 k1
  go_upto_region 5 with fail
  obtain ⟨X3, hX⟩ : ∃ X, X = w3.alloc (.cells #[.int .i64 L.y, .int .i64 L.m, .int .i64 L.d, .int .i64 L.h, .int .i64 L.i, .int .i64 L.s, .int .i64 L.n, .int .i64 L.o] 31) := ⟨_, rfl⟩
  rw [← hX]
  have hb : Below w3.heap.size w3 X3 := by rw [hX]; exact bel_new _ _
  have Pb : Hid (Lk 31 X3 w3.heap.size L) := Lib.hid (by rw [hX]; exact lk_new _ _ L)
  have Pa := Lib.hid (Pa.out.keep hb)
  have Q := Lib.hid ((hb.block _ (bk_lt Q.out)).trans Q.out)
  have B := Lib.hid (B.out.trans (hb.mono B.out.size))
  have E := Lib.hid (E.out.below hb)
  clear hb hX
  obtain ⟨gb, hg⟩ : ∃ g, g = w3.heap.size := ⟨_, rfl⟩
  rw [← hg] at Pb ⊢
  clear hg
  have hK : Ks [(23, ga, L), (31, gb, L)] w X3 := ⟨fun b hm => by simp at hm; rcases hm with rfl | rfl <;> first | exact Pa.out | exact Pb.out, B.out⟩
  clear Q
  go_region_held3 (fun w' => w'.cell? ⟨ga, 0, none⟩ = some (.int .i64 L.y) ∧ w'.cell? ⟨ga, 1, none⟩ = some (.int .i64 L.m) ∧ w'.cell? ⟨ga, 2, none⟩ = some (.int .i64 L.d) ∧ w'.cell? ⟨ga, 3, none⟩ = some (.int .i64 L.h) ∧ w'.cell? ⟨ga, 4, none⟩ = some (.int .i64 L.i) ∧ w'.cell? ⟨ga, 5, none⟩ = some (.int .i64 L.s) ∧ w'.cell? ⟨ga, 6, none⟩ = some (.int .i64 L.n) ∧ w'.cell? ⟨ga, 7, none⟩ = some (.int .i64 L.o) ∧ w'.cell? ⟨gb, 0, none⟩ = some (.int .i64 L.y) ∧ w'.cell? ⟨gb, 1, none⟩ = some (.int .i64 L.m) ∧ w'.cell? ⟨gb, 2, none⟩ = some (.int .i64 L.d) ∧ w'.cell? ⟨gb, 3, none⟩ = some (.int .i64 L.h) ∧ w'.cell? ⟨gb, 4, none⟩ = some (.int .i64 L.i) ∧ w'.cell? ⟨gb, 5, none⟩ = some (.int .i64 L.s) ∧ w'.cell? ⟨gb, 6, none⟩ = some (.int .i64 L.n) ∧ w'.cell? ⟨gb, 7, none⟩ = some (.int .i64 L.o) ∧ Ks [(23, ga, L), (31, gb, L)] w w')
    (first | exact Ks.cells2 (Ks.drew hK) | exact Ks.cells2 (by assumption))
    (first
      | (go_at_call 11; go_split_ands; refine (ldoc_ks L _ (by first | assumption | exact Ks.drew hK)).mono ?_; rintro e wd ⟨rfl, hKd⟩)
      | (go_at_call 12; refine (num_any _ _ EB.out.1 EB.out.2).mono ?_; rintro e w' ⟨rfl, rfl⟩))
  all_goals
    have hB := Ks.bel (bs := [(23, ga, L), (31, gb, L)]) (by assumption)
    have HB := Lib.hid hB
    clear hB
    go_wp2_with (first
      | (go_at_call 20; refine (HC.out _).mono ?_; rintro e w' ⟨rfl, rfl⟩)
      | (go_at_call 21; refine (is_any 1 _ _ (by decide) (by decide)).mono ?_; rintro e w' ⟨rfl, rfl⟩))
    go_ret
    exact ⟨rfl, HB.out⟩

set_option maxRecDepth 100000 in
set_option maxHeartbeats 8000000 in
theorem lmakes_b (n t nn o : Int) (ht : (¬ t < 0 ∧ 86400 < t)) (w : World) (he : Ends w) :
    Calls Tryd.prog 5 #[.int .i64 n, .int .i64 t, .agg #[.int .i64 nn, .int .i64 o]] w fun e w' => e = .returned (.bool true) ∧ Below w.heap.size w w' := by
  obtain ⟨W0, hW0⟩ : ∃ W0, W0 = w.alloc (.cells #[.int .i64 nn, .int .i64 o] 42) := ⟨_, rfl⟩
  have B : Hid (Below w.heap.size w W0) := Lib.hid (by rw [hW0]; exact bel_new w _)
  have Q : Hid (W0.heap[w.heap.size]? = some (.cells #[.int .i64 nn, .int .i64 o] 42 (0, 0))) := Lib.hid (by rw [hW0]; exact heap_alloc_new _ _)
  have E := Lib.hid (he.below B.out)
  have HA := Lib.hid (fun w he => lalive_any w he)
  clear he
  obtain ⟨L, hL⟩ := mk_ex n t nn o
  have hO := fun w he => lof_any n t nn o w he hL
  have hR := fun w => lrof_any n t nn o w hL
  change ∀ w, Ends w → Calls _ _ _ w fun e w' => e = .returned (.tuple #[.agg #[.int .i64 L.y, .int .i64 L.m, .int .i64 L.d, .int .i64 L.h, .int .i64 L.i, .int .i64 L.s, .int .i64 L.n, .int .i64 L.o], _]) ∧ _ at hO
  change ∀ w, Calls _ _ _ w fun e w' => e = .returned (.tuple #[.agg #[.int .i64 L.y, .int .i64 L.m, .int .i64 L.d, .int .i64 L.h, .int .i64 L.i, .int .i64 L.s, .int .i64 L.n, .int .i64 L.o], _]) ∧ _ at hR
  have HO := Lib.hid hO; have HR := Lib.hid hR
  have EB := Lib.hid (mkE_lo n t nn o)
  have hC := fun w => clock_no t w (by unfold ckB; omega)
  have d1 : decide (t < 0) = false := decide_eq_false ht.1
  have d2 : decide (86400 < t) = true := decide_eq_true ht.2
  have HC := Lib.hid hC
  have qd := fun w => eq_doc L.y L.m L.d L.h L.i L.s L.n L.o w
  have q1 := fun W k => eql_ev W k
  have q0 := fun op t W x k => guard_ev op t W x k
  clear hL hO hR hC ht
  generalize mkE n t nn o = F at *
  go_enter Tryd.func5, Tryd.ntmps5
  go_upto_region 1 with fail
  rw [← hW0]; clear hW0
  go_wp2_with fail
  refine (HA.out _ E.out).mono ?_
  rintro e w1 ⟨rfl, hb⟩
  have Q := Lib.hid ((hb.block _ (bk_lt Q.out)).trans Q.out)
  have B := Lib.hid (B.out.trans (hb.mono B.out.size))
  have E := Lib.hid (E.out.below hb)
  clear hb
  have k0 := bk_cell Q.out 0; have k1 := bk_cell Q.out 1
  go_wp2_with fail
  refine (HO.out _ E.out).mono ?_
  rintro e w2 ⟨rfl, hb⟩
  have Q := Lib.hid ((hb.block _ (bk_lt Q.out)).trans Q.out)
  have B := Lib.hid (B.out.trans (hb.mono B.out.size))
  have E := Lib.hid (E.out.below hb)
  clear hb
  clear k0 k1
  go_upto_region 4 with fail
  obtain ⟨X2, hX⟩ : ∃ X, X = w2.alloc (.cells #[.int .i64 L.y, .int .i64 L.m, .int .i64 L.d, .int .i64 L.h, .int .i64 L.i, .int .i64 L.s, .int .i64 L.n, .int .i64 L.o] 23) := ⟨_, rfl⟩
  rw [← hX]
  have hb : Below w2.heap.size w2 X2 := by rw [hX]; exact bel_new _ _
  have Pa : Hid (Lk 23 X2 w2.heap.size L) := Lib.hid (by rw [hX]; exact lk_new _ _ L)
  have Q := Lib.hid ((hb.block _ (bk_lt Q.out)).trans Q.out)
  have B := Lib.hid (B.out.trans (hb.mono B.out.size))
  have E := Lib.hid (E.out.below hb)
  clear hb hX
  obtain ⟨ga, hg⟩ : ∃ g, g = w2.heap.size := ⟨_, rfl⟩
  rw [← hg] at Pa ⊢
  clear hg
  have k0 := bk_cell Q.out 0; have k1 := bk_cell Q.out 1
  go_wp2_with fail
  refine (HR.out _).mono ?_
  rintro e w3 ⟨rfl, hb⟩
  have Pa := Lib.hid (Pa.out.keep hb)
  have Q := Lib.hid ((hb.block _ (bk_lt Q.out)).trans Q.out)
  have B := Lib.hid (B.out.trans (hb.mono B.out.size))
  have E := Lib.hid (E.out.below hb)
  clear hb
  clear k0 k1
  go_upto_region 5 with fail
  obtain ⟨X3, hX⟩ : ∃ X, X = w3.alloc (.cells #[.int .i64 L.y, .int .i64 L.m, .int .i64 L.d, .int .i64 L.h, .int .i64 L.i, .int .i64 L.s, .int .i64 L.n, .int .i64 L.o] 31) := ⟨_, rfl⟩
  rw [← hX]
  have hb : Below w3.heap.size w3 X3 := by rw [hX]; exact bel_new _ _
  have Pb : Hid (Lk 31 X3 w3.heap.size L) := Lib.hid (by rw [hX]; exact lk_new _ _ L)
  have Pa := Lib.hid (Pa.out.keep hb)
  have Q := Lib.hid ((hb.block _ (bk_lt Q.out)).trans Q.out)
  have B := Lib.hid (B.out.trans (hb.mono B.out.size))
  have E := Lib.hid (E.out.below hb)
  clear hb hX
  obtain ⟨gb, hg⟩ : ∃ g, g = w3.heap.size := ⟨_, rfl⟩
  rw [← hg] at Pb ⊢
  clear hg
  have hK : Ks [(23, ga, L), (31, gb, L)] w X3 := ⟨fun b hm => by simp at hm; rcases hm with rfl | rfl <;> first | exact Pa.out | exact Pb.out, B.out⟩
  clear Q
  go_region_held3 (fun w' => w'.cell? ⟨ga, 0, none⟩ = some (.int .i64 L.y) ∧ w'.cell? ⟨ga, 1, none⟩ = some (.int .i64 L.m) ∧ w'.cell? ⟨ga, 2, none⟩ = some (.int .i64 L.d) ∧ w'.cell? ⟨ga, 3, none⟩ = some (.int .i64 L.h) ∧ w'.cell? ⟨ga, 4, none⟩ = some (.int .i64 L.i) ∧ w'.cell? ⟨ga, 5, none⟩ = some (.int .i64 L.s) ∧ w'.cell? ⟨ga, 6, none⟩ = some (.int .i64 L.n) ∧ w'.cell? ⟨ga, 7, none⟩ = some (.int .i64 L.o) ∧ w'.cell? ⟨gb, 0, none⟩ = some (.int .i64 L.y) ∧ w'.cell? ⟨gb, 1, none⟩ = some (.int .i64 L.m) ∧ w'.cell? ⟨gb, 2, none⟩ = some (.int .i64 L.d) ∧ w'.cell? ⟨gb, 3, none⟩ = some (.int .i64 L.h) ∧ w'.cell? ⟨gb, 4, none⟩ = some (.int .i64 L.i) ∧ w'.cell? ⟨gb, 5, none⟩ = some (.int .i64 L.s) ∧ w'.cell? ⟨gb, 6, none⟩ = some (.int .i64 L.n) ∧ w'.cell? ⟨gb, 7, none⟩ = some (.int .i64 L.o) ∧ Ks [(23, ga, L), (31, gb, L)] w w')
    (first | exact Ks.cells2 (Ks.drew hK) | exact Ks.cells2 (by assumption))
    (first
      | (go_at_call 11; go_split_ands; refine (ldoc_ks L _ (by first | assumption | exact Ks.drew hK)).mono ?_; rintro e wd ⟨rfl, hKd⟩)
      | (go_at_call 12; refine (num_any _ _ EB.out.1 EB.out.2).mono ?_; rintro e w' ⟨rfl, rfl⟩))
  all_goals
    have hB := Ks.bel (bs := [(23, ga, L), (31, gb, L)]) (by assumption)
    have HB := Lib.hid hB
    clear hB
    go_wp2_with (first
      | (go_at_call 20; refine (HC.out _).mono ?_; rintro e w' ⟨rfl, rfl⟩)
      | (go_at_call 21; refine (is_any 1 _ _ (by decide) (by decide)).mono ?_; rintro e w' ⟨rfl, rfl⟩))
    go_ret
    exact ⟨rfl, HB.out⟩

set_option maxRecDepth 100000 in
set_option maxHeartbeats 8000000 in
theorem lmakes_c (n t nn o : Int) (ht : (t = 86400)) (w : World) (he : Ends w) :
    Calls Tryd.prog 5 #[.int .i64 n, .int .i64 t, .agg #[.int .i64 nn, .int .i64 o]] w fun e w' => e = .returned (.bool true) ∧ Below w.heap.size w w' := by
  obtain ⟨W0, hW0⟩ : ∃ W0, W0 = w.alloc (.cells #[.int .i64 nn, .int .i64 o] 42) := ⟨_, rfl⟩
  have B : Hid (Below w.heap.size w W0) := Lib.hid (by rw [hW0]; exact bel_new w _)
  have Q : Hid (W0.heap[w.heap.size]? = some (.cells #[.int .i64 nn, .int .i64 o] 42 (0, 0))) := Lib.hid (by rw [hW0]; exact heap_alloc_new _ _)
  have E := Lib.hid (he.below B.out)
  have HA := Lib.hid (fun w he => lalive_any w he)
  clear he
  obtain ⟨L, hL⟩ := mk_ex n t nn o
  have hO := fun w he => lof_any n t nn o w he hL
  have hR := fun w => lrof_any n t nn o w hL
  change ∀ w, Ends w → Calls _ _ _ w fun e w' => e = .returned (.tuple #[.agg #[.int .i64 L.y, .int .i64 L.m, .int .i64 L.d, .int .i64 L.h, .int .i64 L.i, .int .i64 L.s, .int .i64 L.n, .int .i64 L.o], _]) ∧ _ at hO
  change ∀ w, Calls _ _ _ w fun e w' => e = .returned (.tuple #[.agg #[.int .i64 L.y, .int .i64 L.m, .int .i64 L.d, .int .i64 L.h, .int .i64 L.i, .int .i64 L.s, .int .i64 L.n, .int .i64 L.o], _]) ∧ _ at hR
  have HO := Lib.hid hO; have HR := Lib.hid hR
  have EB := Lib.hid (mkE_lo n t nn o)
  have hC := fun w => clock_some t w (by unfold ckB; omega)
  have e1 : cmn t = 1439 := by rw [ht]; decide
  have e2 : crs t = 60 := by unfold crs; rw [e1, ht]; decide
  rw [e1, e2, show (1439 : Int) / 60 = 23 by decide, show (1439 : Int) % 60 = 59 by decide] at hC
  have d1 : decide (t < 0) = false := decide_eq_false (by omega)
  have d2 : decide (86400 < t) = false := decide_eq_false (by omega)
  have d3 : (t == 86400) = true := beq_iff_eq.2 ht
  clear e1 e2
  have HC := Lib.hid hC
  have qd := fun w => eq_doc L.y L.m L.d L.h L.i L.s L.n L.o w
  have q1 := fun W k => eql_ev W k
  have q0 := fun op t W x k => guard_ev op t W x k
  clear hL hO hR hC ht
  generalize mkE n t nn o = F at *
  go_enter Tryd.func5, Tryd.ntmps5
  go_upto_region 1 with fail
  rw [← hW0]; clear hW0
  go_wp2_with fail
  refine (HA.out _ E.out).mono ?_
  rintro e w1 ⟨rfl, hb⟩
  have Q := Lib.hid ((hb.block _ (bk_lt Q.out)).trans Q.out)
  have B := Lib.hid (B.out.trans (hb.mono B.out.size))
  have E := Lib.hid (E.out.below hb)
  clear hb
  have k0 := bk_cell Q.out 0; have k1 := bk_cell Q.out 1
  go_wp2_with fail
  refine (HO.out _ E.out).mono ?_
  rintro e w2 ⟨rfl, hb⟩
  have Q := Lib.hid ((hb.block _ (bk_lt Q.out)).trans Q.out)
  have B := Lib.hid (B.out.trans (hb.mono B.out.size))
  have E := Lib.hid (E.out.below hb)
  clear hb
  clear k0 k1
  go_upto_region 4 with fail
  obtain ⟨X2, hX⟩ : ∃ X, X = w2.alloc (.cells #[.int .i64 L.y, .int .i64 L.m, .int .i64 L.d, .int .i64 L.h, .int .i64 L.i, .int .i64 L.s, .int .i64 L.n, .int .i64 L.o] 23) := ⟨_, rfl⟩
  rw [← hX]
  have hb : Below w2.heap.size w2 X2 := by rw [hX]; exact bel_new _ _
  have Pa : Hid (Lk 23 X2 w2.heap.size L) := Lib.hid (by rw [hX]; exact lk_new _ _ L)
  have Q := Lib.hid ((hb.block _ (bk_lt Q.out)).trans Q.out)
  have B := Lib.hid (B.out.trans (hb.mono B.out.size))
  have E := Lib.hid (E.out.below hb)
  clear hb hX
  obtain ⟨ga, hg⟩ : ∃ g, g = w2.heap.size := ⟨_, rfl⟩
  rw [← hg] at Pa ⊢
  clear hg
  have k0 := bk_cell Q.out 0; have k1 := bk_cell Q.out 1
  go_wp2_with fail
  refine (HR.out _).mono ?_
  rintro e w3 ⟨rfl, hb⟩
  have Pa := Lib.hid (Pa.out.keep hb)
  have Q := Lib.hid ((hb.block _ (bk_lt Q.out)).trans Q.out)
  have B := Lib.hid (B.out.trans (hb.mono B.out.size))
  have E := Lib.hid (E.out.below hb)
  clear hb
  clear k0 k1
  go_upto_region 5 with fail
  obtain ⟨X3, hX⟩ : ∃ X, X = w3.alloc (.cells #[.int .i64 L.y, .int .i64 L.m, .int .i64 L.d, .int .i64 L.h, .int .i64 L.i, .int .i64 L.s, .int .i64 L.n, .int .i64 L.o] 31) := ⟨_, rfl⟩
  rw [← hX]
  have hb : Below w3.heap.size w3 X3 := by rw [hX]; exact bel_new _ _
  have Pb : Hid (Lk 31 X3 w3.heap.size L) := Lib.hid (by rw [hX]; exact lk_new _ _ L)
  have Pa := Lib.hid (Pa.out.keep hb)
  have Q := Lib.hid ((hb.block _ (bk_lt Q.out)).trans Q.out)
  have B := Lib.hid (B.out.trans (hb.mono B.out.size))
  have E := Lib.hid (E.out.below hb)
  clear hb hX
  obtain ⟨gb, hg⟩ : ∃ g, g = w3.heap.size := ⟨_, rfl⟩
  rw [← hg] at Pb ⊢
  clear hg
  have hK : Ks [(23, ga, L), (31, gb, L)] w X3 := ⟨fun b hm => by simp at hm; rcases hm with rfl | rfl <;> first | exact Pa.out | exact Pb.out, B.out⟩
  clear Q
  go_region_held3 (fun w' => w'.cell? ⟨ga, 0, none⟩ = some (.int .i64 L.y) ∧ w'.cell? ⟨ga, 1, none⟩ = some (.int .i64 L.m) ∧ w'.cell? ⟨ga, 2, none⟩ = some (.int .i64 L.d) ∧ w'.cell? ⟨ga, 3, none⟩ = some (.int .i64 L.h) ∧ w'.cell? ⟨ga, 4, none⟩ = some (.int .i64 L.i) ∧ w'.cell? ⟨ga, 5, none⟩ = some (.int .i64 L.s) ∧ w'.cell? ⟨ga, 6, none⟩ = some (.int .i64 L.n) ∧ w'.cell? ⟨ga, 7, none⟩ = some (.int .i64 L.o) ∧ w'.cell? ⟨gb, 0, none⟩ = some (.int .i64 L.y) ∧ w'.cell? ⟨gb, 1, none⟩ = some (.int .i64 L.m) ∧ w'.cell? ⟨gb, 2, none⟩ = some (.int .i64 L.d) ∧ w'.cell? ⟨gb, 3, none⟩ = some (.int .i64 L.h) ∧ w'.cell? ⟨gb, 4, none⟩ = some (.int .i64 L.i) ∧ w'.cell? ⟨gb, 5, none⟩ = some (.int .i64 L.s) ∧ w'.cell? ⟨gb, 6, none⟩ = some (.int .i64 L.n) ∧ w'.cell? ⟨gb, 7, none⟩ = some (.int .i64 L.o) ∧ Ks [(23, ga, L), (31, gb, L)] w w')
    (first | exact Ks.cells2 (Ks.drew hK) | exact Ks.cells2 (by assumption))
    (first
      | (go_at_call 11; go_split_ands; refine (ldoc_ks L _ (by first | assumption | exact Ks.drew hK)).mono ?_; rintro e wd ⟨rfl, hKd⟩)
      | (go_at_call 12; refine (num_any _ _ EB.out.1 EB.out.2).mono ?_; rintro e w' ⟨rfl, rfl⟩))
  all_goals
    have hB := Ks.bel (bs := [(23, ga, L), (31, gb, L)]) (by assumption)
    have HB := Lib.hid hB
    clear hB
    go_wp2_with (first
      | (go_at_call 20; refine (HC.out _).mono ?_; rintro e w' ⟨rfl, rfl⟩)
      | (go_at_call 21; refine (is_any 1 _ _ (by decide) (by decide)).mono ?_; rintro e w' ⟨rfl, rfl⟩))
    go_ret
    exact ⟨rfl, HB.out⟩

set_option maxRecDepth 100000 in
set_option maxHeartbeats 8000000 in
theorem lmakes_d (n t nn o : Int) (ht : (0 ≤ t ∧ t < 86400)) (w : World) (he : Ends w) :
    Calls Tryd.prog 5 #[.int .i64 n, .int .i64 t, .agg #[.int .i64 nn, .int .i64 o]] w fun e w' => e = .returned (.bool true) ∧ Below w.heap.size w w' := by
  obtain ⟨W0, hW0⟩ : ∃ W0, W0 = w.alloc (.cells #[.int .i64 nn, .int .i64 o] 42) := ⟨_, rfl⟩
  have B : Hid (Below w.heap.size w W0) := Lib.hid (by rw [hW0]; exact bel_new w _)
  have Q : Hid (W0.heap[w.heap.size]? = some (.cells #[.int .i64 nn, .int .i64 o] 42 (0, 0))) := Lib.hid (by rw [hW0]; exact heap_alloc_new _ _)
  have E := Lib.hid (he.below B.out)
  have HA := Lib.hid (fun w he => lalive_any w he)
  clear he
  obtain ⟨L, hL⟩ := mk_ex n t nn o
  have hO := fun w he => lof_any n t nn o w he hL
  have hR := fun w => lrof_any n t nn o w hL
  change ∀ w, Ends w → Calls _ _ _ w fun e w' => e = .returned (.tuple #[.agg #[.int .i64 L.y, .int .i64 L.m, .int .i64 L.d, .int .i64 L.h, .int .i64 L.i, .int .i64 L.s, .int .i64 L.n, .int .i64 L.o], _]) ∧ _ at hO
  change ∀ w, Calls _ _ _ w fun e w' => e = .returned (.tuple #[.agg #[.int .i64 L.y, .int .i64 L.m, .int .i64 L.d, .int .i64 L.h, .int .i64 L.i, .int .i64 L.s, .int .i64 L.n, .int .i64 L.o], _]) ∧ _ at hR
  have HO := Lib.hid hO; have HR := Lib.hid hR
  have EB := Lib.hid (mkE_lo n t nn o)
  have hC := fun w => clock_some t w (by unfold ckB; omega)
  have e1 : cmn t = t / 60 := by unfold cmn; rw [if_pos (by omega)]
  have e2 : crs t = t % 60 := by unfold crs; rw [e1]; omega
  have e3 : cmn t / 60 = t / 3600 := by rw [e1]; omega
  rw [e3, e2, e1] at hC
  have d1 : decide (t < 0) = false := decide_eq_false (by omega)
  have d2 : decide (86400 < t) = false := decide_eq_false (by omega)
  have d3 : (t == 86400) = false := beq_eq_false_iff_ne.2 (by omega)
  have t0 : 0 ≤ t := ht.1
  have t2 : t < 86400 := ht.2
  have t1 : 0 ≤ t / 60 := by omega
  clear e1 e2 e3
  have HC := Lib.hid hC
  have qd := fun w => eq_doc L.y L.m L.d L.h L.i L.s L.n L.o w
  have q1 := fun W k => eql_ev W k
  have q0 := fun op t W x k => guard_ev op t W x k
  clear hL hO hR hC ht
  generalize mkE n t nn o = F at *
  go_enter Tryd.func5, Tryd.ntmps5
  go_upto_region 1 with fail
  rw [← hW0]; clear hW0
  go_wp2_with fail
  refine (HA.out _ E.out).mono ?_
  rintro e w1 ⟨rfl, hb⟩
  have Q := Lib.hid ((hb.block _ (bk_lt Q.out)).trans Q.out)
  have B := Lib.hid (B.out.trans (hb.mono B.out.size))
  have E := Lib.hid (E.out.below hb)
  clear hb
  have k0 := bk_cell Q.out 0; have k1 := bk_cell Q.out 1
  go_wp2_with fail
  refine (HO.out _ E.out).mono ?_
  rintro e w2 ⟨rfl, hb⟩
  have Q := Lib.hid ((hb.block _ (bk_lt Q.out)).trans Q.out)
  have B := Lib.hid (B.out.trans (hb.mono B.out.size))
  have E := Lib.hid (E.out.below hb)
  clear hb
  clear k0 k1
  go_upto_region 4 with fail
  obtain ⟨X2, hX⟩ : ∃ X, X = w2.alloc (.cells #[.int .i64 L.y, .int .i64 L.m, .int .i64 L.d, .int .i64 L.h, .int .i64 L.i, .int .i64 L.s, .int .i64 L.n, .int .i64 L.o] 23) := ⟨_, rfl⟩
  rw [← hX]
  have hb : Below w2.heap.size w2 X2 := by rw [hX]; exact bel_new _ _
  have Pa : Hid (Lk 23 X2 w2.heap.size L) := Lib.hid (by rw [hX]; exact lk_new _ _ L)
  have Q := Lib.hid ((hb.block _ (bk_lt Q.out)).trans Q.out)
  have B := Lib.hid (B.out.trans (hb.mono B.out.size))
  have E := Lib.hid (E.out.below hb)
  clear hb hX
  obtain ⟨ga, hg⟩ : ∃ g, g = w2.heap.size := ⟨_, rfl⟩
  rw [← hg] at Pa ⊢
  clear hg
  have k0 := bk_cell Q.out 0; have k1 := bk_cell Q.out 1
  go_wp2_with fail
  refine (HR.out _).mono ?_
  rintro e w3 ⟨rfl, hb⟩
  have Pa := Lib.hid (Pa.out.keep hb)
  have Q := Lib.hid ((hb.block _ (bk_lt Q.out)).trans Q.out)
  have B := Lib.hid (B.out.trans (hb.mono B.out.size))
  have E := Lib.hid (E.out.below hb)
  clear hb
  clear k0 k1
  go_upto_region 5 with fail
  obtain ⟨X3, hX⟩ : ∃ X, X = w3.alloc (.cells #[.int .i64 L.y, .int .i64 L.m, .int .i64 L.d, .int .i64 L.h, .int .i64 L.i, .int .i64 L.s, .int .i64 L.n, .int .i64 L.o] 31) := ⟨_, rfl⟩
  rw [← hX]
  have hb : Below w3.heap.size w3 X3 := by rw [hX]; exact bel_new _ _
  have Pb : Hid (Lk 31 X3 w3.heap.size L) := Lib.hid (by rw [hX]; exact lk_new _ _ L)
  have Pa := Lib.hid (Pa.out.keep hb)
  have Q := Lib.hid ((hb.block _ (bk_lt Q.out)).trans Q.out)
  have B := Lib.hid (B.out.trans (hb.mono B.out.size))
  have E := Lib.hid (E.out.below hb)
  clear hb hX
  obtain ⟨gb, hg⟩ : ∃ g, g = w3.heap.size := ⟨_, rfl⟩
  rw [← hg] at Pb ⊢
  clear hg
  have hK : Ks [(23, ga, L), (31, gb, L)] w X3 := ⟨fun b hm => by simp at hm; rcases hm with rfl | rfl <;> first | exact Pa.out | exact Pb.out, B.out⟩
  clear Q
  go_region_held3 (fun w' => w'.cell? ⟨ga, 0, none⟩ = some (.int .i64 L.y) ∧ w'.cell? ⟨ga, 1, none⟩ = some (.int .i64 L.m) ∧ w'.cell? ⟨ga, 2, none⟩ = some (.int .i64 L.d) ∧ w'.cell? ⟨ga, 3, none⟩ = some (.int .i64 L.h) ∧ w'.cell? ⟨ga, 4, none⟩ = some (.int .i64 L.i) ∧ w'.cell? ⟨ga, 5, none⟩ = some (.int .i64 L.s) ∧ w'.cell? ⟨ga, 6, none⟩ = some (.int .i64 L.n) ∧ w'.cell? ⟨ga, 7, none⟩ = some (.int .i64 L.o) ∧ w'.cell? ⟨gb, 0, none⟩ = some (.int .i64 L.y) ∧ w'.cell? ⟨gb, 1, none⟩ = some (.int .i64 L.m) ∧ w'.cell? ⟨gb, 2, none⟩ = some (.int .i64 L.d) ∧ w'.cell? ⟨gb, 3, none⟩ = some (.int .i64 L.h) ∧ w'.cell? ⟨gb, 4, none⟩ = some (.int .i64 L.i) ∧ w'.cell? ⟨gb, 5, none⟩ = some (.int .i64 L.s) ∧ w'.cell? ⟨gb, 6, none⟩ = some (.int .i64 L.n) ∧ w'.cell? ⟨gb, 7, none⟩ = some (.int .i64 L.o) ∧ Ks [(23, ga, L), (31, gb, L)] w w')
    (first | exact Ks.cells2 (Ks.drew hK) | exact Ks.cells2 (by assumption))
    (first
      | (go_at_call 11; go_split_ands; refine (ldoc_ks L _ (by first | assumption | exact Ks.drew hK)).mono ?_; rintro e wd ⟨rfl, hKd⟩)
      | (go_at_call 12; refine (num_any _ _ EB.out.1 EB.out.2).mono ?_; rintro e w' ⟨rfl, rfl⟩))
  all_goals
    have hB := Ks.bel (bs := [(23, ga, L), (31, gb, L)]) (by assumption)
    have HB := Lib.hid hB
    clear hB
    go_wp2_with (first
      | (go_at_call 20; refine (HC.out _).mono ?_; rintro e w' ⟨rfl, rfl⟩)
      | (go_at_call 21; refine (is_any 1 _ _ (by decide) (by decide)).mono ?_; rintro e w' ⟨rfl, rfl⟩))
    go_ret
    exact ⟨rfl, HB.out⟩

theorem lmakes_walk (n t nn o : Int) (w : World) (he : Ends w) :
    Calls Tryd.prog 5 #[.int .i64 n, .int .i64 t, .agg #[.int .i64 nn, .int .i64 o]] w fun e w' => e = .returned (.bool true) ∧ Below w.heap.size w w' := by
  rcases (by omega : t < 0 ∨ (¬ t < 0 ∧ 86400 < t) ∨ t = 86400 ∨ (0 ≤ t ∧ t < 86400)) with h | h | h | h
  · exact lmakes_a n t nn o h w he
  · exact lmakes_b n t nn o h w he
  · exact lmakes_c n t nn o h w he
  · exact lmakes_d n t nn o h w he

end Go.Proofs.YtlnijcfgkhbfhaaDoor
