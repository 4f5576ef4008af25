/- LabelShifts. Written by gen_labr.py. -/
import Derived.Test.YtlnijcfgkhbfhaaDoorLabP
import Derived.Test.YtlnijcfgkhbfhaaDoorLabJ
import Derived.Test.YtlnijcfgkhbfhaaDoorTabs
namespace Go.Proofs.YtlnijcfgkhbfhaaDoor
open Go.RowKit
set_option linter.unusedVariables false

set_option maxRecDepth 100000 in
set_option maxHeartbeats 8000000 in
theorem lshifts_walk (l : Lb) (o : Int) (w : World) (he : Ends w) :
    Calls Tryd.prog 4 #[.agg l.cells, .int .i64 o] w fun e w' => e = .returned (.bool true) ∧ Below w.heap.size w w' := by
  obtain ⟨W0, hW0⟩ : ∃ W0, W0 = w.alloc (.cells l.cells 23) := ⟨_, rfl⟩
  have B : Hid (Below w.heap.size w W0) := Lib.hid (by rw [hW0]; exact bel_new w _)
  have Pl : Hid (Lk 23 W0 w.heap.size l) := Lib.hid (by rw [hW0]; exact lk_new _ _ _)
  have E := Lib.hid (he.below B.out)
  have HA := Lib.hid (fun w he => lalive_any w he)
  clear he
  obtain ⟨L, hL⟩ := at_ex l o
  obtain ⟨K, hK⟩ := at_ex l 0
  have hO := fun w he => lat_any l o w he hL
  have hU := fun w he => lutc_any l w he hK
  have hR := fun w => lrat_any l o w hL
  have hS := fun w => lrat_any l 0 w hK
  have HD := Lib.hid (fun w => ldoc_any l w)
  change ∀ w, Ends w → Calls _ _ _ w fun e w' => e = .returned (.tuple #[.agg #[.int .i64 L.y, .int .i64 L.m, .int .i64 L.d, .int .i64 L.h, .int .i64 L.i, .int .i64 L.s, .int .i64 L.n, .int .i64 L.o], _]) ∧ _ at hO
  change ∀ w, Ends w → Calls _ _ _ w fun e w' => e = .returned (.tuple #[.agg #[.int .i64 K.y, .int .i64 K.m, .int .i64 K.d, .int .i64 K.h, .int .i64 K.i, .int .i64 K.s, .int .i64 K.n, .int .i64 K.o], _]) ∧ _ at hU
  change ∀ w, Calls _ _ _ w fun e w' => e = .returned (.tuple #[.agg #[.int .i64 L.y, .int .i64 L.m, .int .i64 L.d, .int .i64 L.h, .int .i64 L.i, .int .i64 L.s, .int .i64 L.n, .int .i64 L.o], _]) ∧ _ at hR
  change ∀ w, Calls _ _ _ w fun e w' => e = .returned (.tuple #[.agg #[.int .i64 K.y, .int .i64 K.m, .int .i64 K.d, .int .i64 K.h, .int .i64 K.i, .int .i64 K.s, .int .i64 K.n, .int .i64 K.o], _]) ∧ _ at hS
  have HO := Lib.hid hO; have HU := Lib.hid hU; have HR := Lib.hid hR; have HS := Lib.hid hS
  have EB := Lib.hid (atE_lo l o)
  have EC := Lib.hid (atE_lo l 0)
  have qd := fun w => eq_doc L.y L.m L.d L.h L.i L.s L.n L.o w
  have qe := fun w => eq_doc K.y K.m K.d K.h K.i K.s K.n K.o w
  clear hL hK hO hU hR hS
  generalize atE l o = F at *
  generalize atE l 0 = G at *
  obtain ⟨cl0, cl1, cl2, cl3, cl4, cl5, cl6, cl7⟩ := Pl.out.all
  go_enter Tryd.func4, Tryd.ntmps4
  go_upto_region 1 with fail
  rw [← hW0]; clear hW0
  go_wp2_with fail
  refine (HA.out _ E.out).mono ?_
  rintro e w1 ⟨rfl, hb⟩
  clear cl0 cl1 cl2 cl3 cl4 cl5 cl6 cl7
  have Pl := Lib.hid (Pl.out.keep hb)
  have B := Lib.hid (B.out.trans (hb.mono B.out.size))
  have E := Lib.hid (E.out.below hb)
  clear hb
  obtain ⟨cl0, cl1, cl2, cl3, cl4, cl5, cl6, cl7⟩ := Pl.out.all
  go_wp2_with fail
  refine (HO.out _ E.out).mono ?_
  rintro e w2 ⟨rfl, hb⟩
  clear cl0 cl1 cl2 cl3 cl4 cl5 cl6 cl7
  have Pl := Lib.hid (Pl.out.keep hb)
  have B := Lib.hid (B.out.trans (hb.mono B.out.size))
  have E := Lib.hid (E.out.below hb)
  clear hb
  go_upto_region 4 with fail
  obtain ⟨X2, hX⟩ : ∃ X, X = w2.alloc (.cells #[.int .i64 L.y, .int .i64 L.m, .int .i64 L.d, .int .i64 L.h, .int .i64 L.i, .int .i64 L.s, .int .i64 L.n, .int .i64 L.o] 23) := ⟨_, rfl⟩
  rw [← hX]
  have hb : Below w2.heap.size w2 X2 := by rw [hX]; exact bel_new _ _
  have Pa : Hid (Lk 23 X2 w2.heap.size L) := Lib.hid (by rw [hX]; exact lk_new _ _ L)
  have Pl := Lib.hid (Pl.out.keep hb)
  have B := Lib.hid (B.out.trans (hb.mono B.out.size))
  have E := Lib.hid (E.out.below hb)
  clear hb hX
  obtain ⟨ga, hg⟩ : ∃ g, g = w2.heap.size := ⟨_, rfl⟩
  rw [← hg] at Pa ⊢
  clear hg
  obtain ⟨cl0, cl1, cl2, cl3, cl4, cl5, cl6, cl7⟩ := Pl.out.all
  go_wp2_with fail
  refine (HU.out _ E.out).mono ?_
  rintro e w3 ⟨rfl, hb⟩
  clear cl0 cl1 cl2 cl3 cl4 cl5 cl6 cl7
  have Pl := Lib.hid (Pl.out.keep hb)
  have Pa := Lib.hid (Pa.out.keep hb)
  have B := Lib.hid (B.out.trans (hb.mono B.out.size))
  have E := Lib.hid (E.out.below hb)
  clear hb
  go_upto_region 5 with fail
  obtain ⟨X3, hX⟩ : ∃ X, X = w3.alloc (.cells #[.int .i64 K.y, .int .i64 K.m, .int .i64 K.d, .int .i64 K.h, .int .i64 K.i, .int .i64 K.s, .int .i64 K.n, .int .i64 K.o] 23) := ⟨_, rfl⟩
  rw [← hX]
  have hb : Below w3.heap.size w3 X3 := by rw [hX]; exact bel_new _ _
  have Pb : Hid (Lk 23 X3 w3.heap.size K) := Lib.hid (by rw [hX]; exact lk_new _ _ K)
  have Pl := Lib.hid (Pl.out.keep hb)
  have Pa := Lib.hid (Pa.out.keep hb)
  have B := Lib.hid (B.out.trans (hb.mono B.out.size))
  have E := Lib.hid (E.out.below hb)
  clear hb hX
  obtain ⟨gb, hg⟩ : ∃ g, g = w3.heap.size := ⟨_, rfl⟩
  rw [← hg] at Pb ⊢
  clear hg
  obtain ⟨cl0, cl1, cl2, cl3, cl4, cl5, cl6, cl7⟩ := Pl.out.all
  go_wp2_with fail
  refine (HD.out _).mono ?_
  rintro e w4 ⟨rfl, hb⟩
  clear cl0 cl1 cl2 cl3 cl4 cl5 cl6 cl7
  have Pl := Lib.hid (Pl.out.keep hb)
  have Pa := Lib.hid (Pa.out.keep hb)
  have Pb := Lib.hid (Pb.out.keep hb)
  have B := Lib.hid (B.out.trans (hb.mono B.out.size))
  have E := Lib.hid (E.out.below hb)
  clear hb
  go_wp2_with fail
  refine (HR.out _).mono ?_
  rintro e w5 ⟨rfl, hb⟩
  have Pl := Lib.hid (Pl.out.keep hb)
  have Pa := Lib.hid (Pa.out.keep hb)
  have Pb := Lib.hid (Pb.out.keep hb)
  have B := Lib.hid (B.out.trans (hb.mono B.out.size))
  have E := Lib.hid (E.out.below hb)
  clear hb
  go_upto_region 6 with fail
  obtain ⟨X5, hX⟩ : ∃ X, X = w5.alloc (.cells #[.int .i64 L.y, .int .i64 L.m, .int .i64 L.d, .int .i64 L.h, .int .i64 L.i, .int .i64 L.s, .int .i64 L.n, .int .i64 L.o] 31) := ⟨_, rfl⟩
  rw [← hX]
  have hb : Below w5.heap.size w5 X5 := by rw [hX]; exact bel_new _ _
  have Pc : Hid (Lk 31 X5 w5.heap.size L) := Lib.hid (by rw [hX]; exact lk_new _ _ L)
  have Pl := Lib.hid (Pl.out.keep hb)
  have Pa := Lib.hid (Pa.out.keep hb)
  have Pb := Lib.hid (Pb.out.keep hb)
  have B := Lib.hid (B.out.trans (hb.mono B.out.size))
  have E := Lib.hid (E.out.below hb)
  clear hb hX
  obtain ⟨gc, hg⟩ : ∃ g, g = w5.heap.size := ⟨_, rfl⟩
  rw [← hg] at Pc ⊢
  clear hg
  obtain ⟨cl0, cl1, cl2, cl3, cl4, cl5, cl6, cl7⟩ := Pl.out.all
  go_wp2_with fail
  refine (HD.out _).mono ?_
  rintro e w6 ⟨rfl, hb⟩
  clear cl0 cl1 cl2 cl3 cl4 cl5 cl6 cl7
  have Pl := Lib.hid (Pl.out.keep hb)
  have Pa := Lib.hid (Pa.out.keep hb)
  have Pb := Lib.hid (Pb.out.keep hb)
  have Pc := Lib.hid (Pc.out.keep hb)
  have B := Lib.hid (B.out.trans (hb.mono B.out.size))
  have E := Lib.hid (E.out.below hb)
  clear hb
  go_wp2_with fail
  refine (HS.out _).mono ?_
  rintro e w7 ⟨rfl, hb⟩
  have Pl := Lib.hid (Pl.out.keep hb)
  have Pa := Lib.hid (Pa.out.keep hb)
  have Pb := Lib.hid (Pb.out.keep hb)
  have Pc := Lib.hid (Pc.out.keep hb)
  have B := Lib.hid (B.out.trans (hb.mono B.out.size))
  have E := Lib.hid (E.out.below hb)
  clear hb
  go_upto_region 7 with fail
  obtain ⟨X7, hX⟩ : ∃ X, X = w7.alloc (.cells #[.int .i64 K.y, .int .i64 K.m, .int .i64 K.d, .int .i64 K.h, .int .i64 K.i, .int .i64 K.s, .int .i64 K.n, .int .i64 K.o] 31) := ⟨_, rfl⟩
  rw [← hX]
  have hb : Below w7.heap.size w7 X7 := by rw [hX]; exact bel_new _ _
  have Pd : Hid (Lk 31 X7 w7.heap.size K) := Lib.hid (by rw [hX]; exact lk_new _ _ K)
  have Pl := Lib.hid (Pl.out.keep hb)
  have Pa := Lib.hid (Pa.out.keep hb)
  have Pb := Lib.hid (Pb.out.keep hb)
  have Pc := Lib.hid (Pc.out.keep hb)
  have B := Lib.hid (B.out.trans (hb.mono B.out.size))
  have E := Lib.hid (E.out.below hb)
  clear hb hX
  obtain ⟨gd, hg⟩ : ∃ g, g = w7.heap.size := ⟨_, rfl⟩
  rw [← hg] at Pd ⊢
  clear hg
  have hK : Ks [(23, ga, L), (23, gb, K), (31, gc, L), (31, gd, K)] w X7 := ⟨fun b hm => by simp at hm; rcases hm with rfl | rfl | rfl | rfl <;> first | exact Pa.out | exact Pb.out | exact Pc.out | exact Pd.out, B.out⟩
  have hKD := Ks.drew hK
  go_region_held3 (fun w' => w'.cell? ⟨ga, 0, none⟩ = some (.int .i64 L.y) ∧ w'.cell? ⟨ga, 1, none⟩ = some (.int .i64 L.m) ∧ w'.cell? ⟨ga, 2, none⟩ = some (.int .i64 L.d) ∧ w'.cell? ⟨ga, 3, none⟩ = some (.int .i64 L.h) ∧ w'.cell? ⟨ga, 4, none⟩ = some (.int .i64 L.i) ∧ w'.cell? ⟨ga, 5, none⟩ = some (.int .i64 L.s) ∧ w'.cell? ⟨ga, 6, none⟩ = some (.int .i64 L.n) ∧ w'.cell? ⟨ga, 7, none⟩ = some (.int .i64 L.o) ∧ w'.cell? ⟨gb, 0, none⟩ = some (.int .i64 K.y) ∧ w'.cell? ⟨gb, 1, none⟩ = some (.int .i64 K.m) ∧ w'.cell? ⟨gb, 2, none⟩ = some (.int .i64 K.d) ∧ w'.cell? ⟨gb, 3, none⟩ = some (.int .i64 K.h) ∧ w'.cell? ⟨gb, 4, none⟩ = some (.int .i64 K.i) ∧ w'.cell? ⟨gb, 5, none⟩ = some (.int .i64 K.s) ∧ w'.cell? ⟨gb, 6, none⟩ = some (.int .i64 K.n) ∧ w'.cell? ⟨gb, 7, none⟩ = some (.int .i64 K.o) ∧ w'.cell? ⟨gc, 0, none⟩ = some (.int .i64 L.y) ∧ w'.cell? ⟨gc, 1, none⟩ = some (.int .i64 L.m) ∧ w'.cell? ⟨gc, 2, none⟩ = some (.int .i64 L.d) ∧ w'.cell? ⟨gc, 3, none⟩ = some (.int .i64 L.h) ∧ w'.cell? ⟨gc, 4, none⟩ = some (.int .i64 L.i) ∧ w'.cell? ⟨gc, 5, none⟩ = some (.int .i64 L.s) ∧ w'.cell? ⟨gc, 6, none⟩ = some (.int .i64 L.n) ∧ w'.cell? ⟨gc, 7, none⟩ = some (.int .i64 L.o) ∧ w'.cell? ⟨gd, 0, none⟩ = some (.int .i64 K.y) ∧ w'.cell? ⟨gd, 1, none⟩ = some (.int .i64 K.m) ∧ w'.cell? ⟨gd, 2, none⟩ = some (.int .i64 K.d) ∧ w'.cell? ⟨gd, 3, none⟩ = some (.int .i64 K.h) ∧ w'.cell? ⟨gd, 4, none⟩ = some (.int .i64 K.i) ∧ w'.cell? ⟨gd, 5, none⟩ = some (.int .i64 K.s) ∧ w'.cell? ⟨gd, 6, none⟩ = some (.int .i64 K.n) ∧ w'.cell? ⟨gd, 7, none⟩ = some (.int .i64 K.o) ∧ Ks [(23, ga, L), (23, gb, K), (31, gc, L), (31, gd, K)] w w')
    (first | with_reducible exact Ks.cells4 (by assumption) | exact Ks.cells4 (by assumption))
    (first
      | (go_at_call 11; go_split_ands; with_reducible refine (ldoc_ks _ _ (by assumption)).mono ?_; rintro e wd ⟨rfl, hKd⟩)
      | (go_at_call 12; with_reducible refine (num_any _ _ EB.out.1 EB.out.2).mono ?_; rintro e w' ⟨rfl, rfl⟩)
      | (go_at_call 12; with_reducible refine (num_any _ _ EC.out.1 EC.out.2).mono ?_; rintro e w' ⟨rfl, rfl⟩))
  all_goals
    have hB := Ks.bel (bs := [(23, ga, L), (23, gb, K), (31, gc, L), (31, gd, K)]) (by assumption)
    have HB := Lib.hid hB
    clear hB
    go_wp2_with fail
    go_ret
    exact ⟨rfl, HB.out⟩

end Go.Proofs.YtlnijcfgkhbfhaaDoor
