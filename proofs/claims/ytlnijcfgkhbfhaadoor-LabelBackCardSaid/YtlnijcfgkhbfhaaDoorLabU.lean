/- LabelBack. Written by gen_labr.py. -/
import Derived.Test.YtlnijcfgkhbfhaaDoorLabN
import Derived.Test.YtlnijcfgkhbfhaaDoorTabs
namespace Go.Proofs.YtlnijcfgkhbfhaaDoor
open Go.RowKit
set_option linter.unusedVariables false

set_option maxRecDepth 100000 in
set_option maxHeartbeats 8000000 in
theorem lback_no (l : Lb) (o : Int) (h : lbE l ≠ 0) (w : World) (he : Ends w) :
    Calls Tryd.prog 7 #[.agg l.cells, .int .i64 o] w fun e w' => e = .returned (.bool true) ∧ Below w.heap.size w w' := by
  obtain ⟨W0, hW0⟩ : ∃ W0, W0 = w.alloc (.cells l.cells 23) := ⟨_, rfl⟩
  have B : Hid (Below w.heap.size w W0) := Lib.hid (by rw [hW0]; exact bel_new w _)
  have Pl : Hid (Lk 23 W0 w.heap.size l) := Lib.hid (by rw [hW0]; exact lk_new _ _ _)
  have E := Lib.hid (he.below B.out)
  have HA := Lib.hid (fun w he => lalive_any w he)
  clear he
  have HS := Lib.hid (fun w he => lsplit_any l w he)
  have q0 := fun op t W x k => guard_ev op t W x k
  have q2 := fun W k => neq_ev W k
  have h' := ne_z h
  clear h
  generalize lbE l = F at *
  obtain ⟨cl0, cl1, cl2, cl3, cl4, cl5, cl6, cl7⟩ := Pl.out.all
  go_enter Tryd.func7, Tryd.ntmps7
  go_upto_region 1 with fail
  rw [← hW0]; clear hW0
  go_wp2_with fail
  refine (HA.out _ E.out).mono ?_
  rintro e w1 ⟨rfl, hb⟩
  clear cl0 cl1 cl2 cl3 cl4 cl5 cl6 cl7
  have Pl := Lib.hid (Pl.out.keep hb)
  have B := Lib.hid (B.out.trans (hb.mono B.out.size))
  have E := Lib.hid (E.out.below hb)
  clear hb
  obtain ⟨cl0, cl1, cl2, cl3, cl4, cl5, cl6, cl7⟩ := Pl.out.all
  go_wp2_with fail
  refine (HS.out _ E.out).mono ?_
  rintro e w2 ⟨rfl, hb⟩
  clear cl0 cl1 cl2 cl3 cl4 cl5 cl6 cl7
  have Pl := Lib.hid (Pl.out.keep hb)
  have B := Lib.hid (B.out.trans (hb.mono B.out.size))
  have E := Lib.hid (E.out.below hb)
  clear hb
  obtain ⟨cl0, cl1, cl2, cl3, cl4, cl5, cl6, cl7⟩ := Pl.out.all
  go_wp2_with fail
  go_ret
  exact ⟨rfl, B.out⟩

set_option maxRecDepth 100000 in
set_option maxHeartbeats 8000000 in
theorem lback_far (l : Lb) (o : Int) (h : lbE l = 0) (k : mkE (lbN l) (lbT l) l.n o ≠ 0) (w : World) (he : Ends w) :
    Calls Tryd.prog 7 #[.agg l.cells, .int .i64 o] w fun e w' => e = .returned (.bool true) ∧ Below w.heap.size w w' := by
  obtain ⟨W0, hW0⟩ : ∃ W0, W0 = w.alloc (.cells l.cells 23) := ⟨_, rfl⟩
  have B : Hid (Below w.heap.size w W0) := Lib.hid (by rw [hW0]; exact bel_new w _)
  have Pl : Hid (Lk 23 W0 w.heap.size l) := Lib.hid (by rw [hW0]; exact lk_new _ _ _)
  have E := Lib.hid (he.below B.out)
  have HA := Lib.hid (fun w he => lalive_any w he)
  clear he
  have hS := fun w he => lsplit_any l w he
  rw [h] at hS
  obtain ⟨m0, m1⟩ := moment_mk h
  have hO := fun w he => lof_any (lbN l) (lbT l) l.n l.o w he m1
  rw [m0] at hO
  change ∀ w, Ends w → Calls _ _ _ w fun e w' => e = .returned (.tuple #[.agg #[.int .i64 l.y, .int .i64 l.m, .int .i64 l.d, .int .i64 l.h, .int .i64 l.i, .int .i64 l.s, .int .i64 l.n, .int .i64 l.o], _]) ∧ _ at hO
  have hT := fun w he => lat_any l o w he (L := lb0) (.inl ⟨h, .inr ⟨k, rfl⟩⟩)
  rw [show atE l o = mkE (lbN l) (lbT l) l.n o from if_pos h] at hT
  change ∀ w, Ends w → Calls _ _ _ w fun e w' => e = .returned (.tuple #[.agg #[.int .i64 0, .int .i64 0, .int .i64 0, .int .i64 0, .int .i64 0, .int .i64 0, .int .i64 0, .int .i64 0], _]) ∧ _ at hT
  have HS := Lib.hid hS; have HO := Lib.hid hO; have HT := Lib.hid hT
  have h' := ne_z k
  have q0 := fun op t W x k => guard_ev op t W x k
  have q1 := fun W k => eql_ev W k
  have q2 := fun W k => neq_ev W k
  have ql := fun w => eq_lab l.y l.m l.d l.h l.i l.s l.n l.o w
  have qz := fun w => eq_lab 0 0 0 0 0 0 0 0 w
  clear h k hS hO hT m0 m1
  generalize mkE (lbN l) (lbT l) l.n o = F at *
  generalize lbN l = N at *
  generalize lbT l = T at *
  obtain ⟨cl0, cl1, cl2, cl3, cl4, cl5, cl6, cl7⟩ := Pl.out.all
  go_enter Tryd.func7, Tryd.ntmps7
  go_upto_region 1 with fail
  rw [← hW0]; clear hW0
  go_wp2_with fail
  refine (HA.out _ E.out).mono ?_
  rintro e w1 ⟨rfl, hb⟩
  clear cl0 cl1 cl2 cl3 cl4 cl5 cl6 cl7
  have Pl := Lib.hid (Pl.out.keep hb)
  have B := Lib.hid (B.out.trans (hb.mono B.out.size))
  have E := Lib.hid (E.out.below hb)
  clear hb
  obtain ⟨cl0, cl1, cl2, cl3, cl4, cl5, cl6, cl7⟩ := Pl.out.all
  go_wp2_with fail
  refine (HS.out _ E.out).mono ?_
  rintro e w2 ⟨rfl, hb⟩
  clear cl0 cl1 cl2 cl3 cl4 cl5 cl6 cl7
  have Pl := Lib.hid (Pl.out.keep hb)
  have B := Lib.hid (B.out.trans (hb.mono B.out.size))
  have E := Lib.hid (E.out.below hb)
  clear hb
  obtain ⟨cl0, cl1, cl2, cl3, cl4, cl5, cl6, cl7⟩ := Pl.out.all
  go_wp2_with fail
  refine (HO.out _ E.out).mono ?_
  rintro e w3 ⟨rfl, hb⟩
  clear cl0 cl1 cl2 cl3 cl4 cl5 cl6 cl7
  have Pl := Lib.hid (Pl.out.keep hb)
  have B := Lib.hid (B.out.trans (hb.mono B.out.size))
  have E := Lib.hid (E.out.below hb)
  clear hb
  go_upto_region 7 with fail
  obtain ⟨X3, hX⟩ : ∃ X, X = w3.alloc (.cells #[.int .i64 l.y, .int .i64 l.m, .int .i64 l.d, .int .i64 l.h, .int .i64 l.i, .int .i64 l.s, .int .i64 l.n, .int .i64 l.o] 23) := ⟨_, rfl⟩
  rw [← hX]
  have hb : Below w3.heap.size w3 X3 := by rw [hX]; exact bel_new _ _
  have Pa : Hid (Lk 23 X3 w3.heap.size l) := Lib.hid (by rw [hX]; exact lk_new _ _ l)
  have Pl := Lib.hid (Pl.out.keep hb)
  have B := Lib.hid (B.out.trans (hb.mono B.out.size))
  have E := Lib.hid (E.out.below hb)
  clear hb hX
  obtain ⟨ga, hg⟩ : ∃ g, g = w3.heap.size := ⟨_, rfl⟩
  rw [← hg] at Pa ⊢
  clear hg
  obtain ⟨cl0, cl1, cl2, cl3, cl4, cl5, cl6, cl7⟩ := Pl.out.all
  obtain ⟨ca0, ca1, ca2, ca3, ca4, ca5, ca6, ca7⟩ := Pa.out.all
  go_wp2_with fail
  refine (HT.out _ E.out).mono ?_
  rintro e w4 ⟨rfl, hb⟩
  clear cl0 cl1 cl2 cl3 cl4 cl5 cl6 cl7 ca0 ca1 ca2 ca3 ca4 ca5 ca6 ca7
  have Pl := Lib.hid (Pl.out.keep hb)
  have Pa := Lib.hid (Pa.out.keep hb)
  have B := Lib.hid (B.out.trans (hb.mono B.out.size))
  have E := Lib.hid (E.out.below hb)
  clear hb
  go_wp2_with fail
  go_ret
  exact ⟨rfl, B.out.alloc B.out.size _⟩

set_option maxRecDepth 100000 in
set_option maxHeartbeats 8000000 in
theorem lback_ok (l : Lb) (o : Int) (h : lbE l = 0) (k : mkE (lbN l) (lbT l) l.n o = 0) (w : World) (he : Ends w) :
    Calls Tryd.prog 7 #[.agg l.cells, .int .i64 o] w fun e w' => e = .returned (.bool true) ∧ Below w.heap.size w w' := by
  obtain ⟨W0, hW0⟩ : ∃ W0, W0 = w.alloc (.cells l.cells 23) := ⟨_, rfl⟩
  have B : Hid (Below w.heap.size w W0) := Lib.hid (by rw [hW0]; exact bel_new w _)
  have Pl : Hid (Lk 23 W0 w.heap.size l) := Lib.hid (by rw [hW0]; exact lk_new _ _ _)
  have E := Lib.hid (he.below B.out)
  have HA := Lib.hid (fun w he => lalive_any w he)
  clear he
  have hS := fun w he => lsplit_any l w he
  rw [h] at hS
  obtain ⟨m0, m1⟩ := moment_mk h
  have hO := fun w he => lof_any (lbN l) (lbT l) l.n l.o w he m1
  rw [m0] at hO
  change ∀ w, Ends w → Calls _ _ _ w fun e w' => e = .returned (.tuple #[.agg #[.int .i64 l.y, .int .i64 l.m, .int .i64 l.d, .int .i64 l.h, .int .i64 l.i, .int .i64 l.s, .int .i64 l.n, .int .i64 l.o], _]) ∧ _ at hO
  obtain ⟨L, hL⟩ := mk_ex (lbN l) (lbT l) l.n o
  obtain ⟨n0, n1, n2, n3, n4⟩ := mk_moment k hL
  have hT := fun w he => lat_any l o w he (.inl ⟨h, hL⟩)
  rw [show atE l o = mkE (lbN l) (lbT l) l.n o from if_pos h, k] at hT
  change ∀ w, Ends w → Calls _ _ _ w fun e w' => e = .returned (.tuple #[.agg #[.int .i64 L.y, .int .i64 L.m, .int .i64 L.d, .int .i64 L.h, .int .i64 L.i, .int .i64 L.s, .int .i64 L.n, .int .i64 L.o], _]) ∧ _ at hT
  have hP := fun w he => lsplit_any L w he
  rw [n0, n1, n2] at hP
  have hB := fun w he => lat_any L l.o w he (L := l) (.inl ⟨n0, by rw [n1, n2, n3]; exact m1⟩)
  rw [show atE L l.o = 0 by unfold atE; rw [if_pos n0, n1, n2, n3]; exact m0] at hB
  change ∀ w, Ends w → Calls _ _ #[.agg #[.int .i64 L.y, .int .i64 L.m, .int .i64 L.d, .int .i64 L.h, .int .i64 L.i, .int .i64 L.s, .int .i64 L.n, .int .i64 L.o], _] w fun e w' => e = .returned (.tuple #[.agg #[.int .i64 l.y, .int .i64 l.m, .int .i64 l.d, .int .i64 l.h, .int .i64 l.i, .int .i64 l.s, .int .i64 l.n, .int .i64 l.o], _]) ∧ _ at hB
  have hC := fun w he => lcompare_any l L w he
  have e1 : cmE l L = 0 := by unfold cmE; rw [if_pos h, n0]
  rw [show cmV l L = 0 by unfold cmV; rw [if_pos e1]; exact cm3_same n1.symm n2.symm n3.symm, e1] at hC
  change ∀ w, Ends w → Calls _ _ #[.agg #[.int .i64 l.y, .int .i64 l.m, .int .i64 l.d, .int .i64 l.h, .int .i64 l.i, .int .i64 l.s, .int .i64 l.n, .int .i64 l.o], .agg #[.int .i64 L.y, .int .i64 L.m, .int .i64 L.d, .int .i64 L.h, .int .i64 L.i, .int .i64 L.s, .int .i64 L.n, .int .i64 L.o]] w _ at hC
  have HS := Lib.hid hS; have HO := Lib.hid hO; have HT := Lib.hid hT; have HP := Lib.hid hP; have HB := Lib.hid hB; have HC := Lib.hid hC
  have b1 : (L.o == o) = true := beq_iff_eq.2 n4
  have q0 := fun op t W x k => guard_ev op t W x k
  have q1 := fun W k => eql_ev W k
  have q2 := fun W k => neq_ev W k
  have ql := fun w => eq_lab l.y l.m l.d l.h l.i l.s l.n l.o w
  clear h k hS hO hT hP hB hC m0 m1 hL n0 n1 n2 n3 n4 e1
  generalize lbN l = N at *
  generalize lbT l = T at *
  obtain ⟨cl0, cl1, cl2, cl3, cl4, cl5, cl6, cl7⟩ := Pl.out.all
  go_enter Tryd.func7, Tryd.ntmps7
  go_upto_region 1 with fail
  rw [← hW0]; clear hW0
  go_wp2_with fail
  refine (HA.out _ E.out).mono ?_
  rintro e w1 ⟨rfl, hb⟩
  clear cl0 cl1 cl2 cl3 cl4 cl5 cl6 cl7
  have Pl := Lib.hid (Pl.out.keep hb)
  have B := Lib.hid (B.out.trans (hb.mono B.out.size))
  have E := Lib.hid (E.out.below hb)
  clear hb
  obtain ⟨cl0, cl1, cl2, cl3, cl4, cl5, cl6, cl7⟩ := Pl.out.all
  go_wp2_with fail
  refine (HS.out _ E.out).mono ?_
  rintro e w2 ⟨rfl, hb⟩
  clear cl0 cl1 cl2 cl3 cl4 cl5 cl6 cl7
  have Pl := Lib.hid (Pl.out.keep hb)
  have B := Lib.hid (B.out.trans (hb.mono B.out.size))
  have E := Lib.hid (E.out.below hb)
  clear hb
  obtain ⟨cl0, cl1, cl2, cl3, cl4, cl5, cl6, cl7⟩ := Pl.out.all
  go_wp2_with fail
  refine (HO.out _ E.out).mono ?_
  rintro e w3 ⟨rfl, hb⟩
  clear cl0 cl1 cl2 cl3 cl4 cl5 cl6 cl7
  have Pl := Lib.hid (Pl.out.keep hb)
  have B := Lib.hid (B.out.trans (hb.mono B.out.size))
  have E := Lib.hid (E.out.below hb)
  clear hb
  go_upto_region 7 with fail
  obtain ⟨X3, hX⟩ : ∃ X, X = w3.alloc (.cells #[.int .i64 l.y, .int .i64 l.m, .int .i64 l.d, .int .i64 l.h, .int .i64 l.i, .int .i64 l.s, .int .i64 l.n, .int .i64 l.o] 23) := ⟨_, rfl⟩
  rw [← hX]
  have hb : Below w3.heap.size w3 X3 := by rw [hX]; exact bel_new _ _
  have Pa : Hid (Lk 23 X3 w3.heap.size l) := Lib.hid (by rw [hX]; exact lk_new _ _ l)
  have Pl := Lib.hid (Pl.out.keep hb)
  have B := Lib.hid (B.out.trans (hb.mono B.out.size))
  have E := Lib.hid (E.out.below hb)
  clear hb hX
  obtain ⟨ga, hg⟩ : ∃ g, g = w3.heap.size := ⟨_, rfl⟩
  rw [← hg] at Pa ⊢
  clear hg
  obtain ⟨cl0, cl1, cl2, cl3, cl4, cl5, cl6, cl7⟩ := Pl.out.all
  obtain ⟨ca0, ca1, ca2, ca3, ca4, ca5, ca6, ca7⟩ := Pa.out.all
  go_wp2_with fail
  refine (HT.out _ E.out).mono ?_
  rintro e w4 ⟨rfl, hb⟩
  clear cl0 cl1 cl2 cl3 cl4 cl5 cl6 cl7 ca0 ca1 ca2 ca3 ca4 ca5 ca6 ca7
  have Pl := Lib.hid (Pl.out.keep hb)
  have Pa := Lib.hid (Pa.out.keep hb)
  have B := Lib.hid (B.out.trans (hb.mono B.out.size))
  have E := Lib.hid (E.out.below hb)
  clear hb
  clear Pa
  go_upto_region 10 with fail
  obtain ⟨X4, hX⟩ : ∃ X, X = w4.alloc (.cells #[.int .i64 L.y, .int .i64 L.m, .int .i64 L.d, .int .i64 L.h, .int .i64 L.i, .int .i64 L.s, .int .i64 L.n, .int .i64 L.o] 23) := ⟨_, rfl⟩
  rw [← hX]
  have hb : Below w4.heap.size w4 X4 := by rw [hX]; exact bel_new _ _
  have Pb : Hid (Lk 23 X4 w4.heap.size L) := Lib.hid (by rw [hX]; exact lk_new _ _ L)
  have Pl := Lib.hid (Pl.out.keep hb)
  have B := Lib.hid (B.out.trans (hb.mono B.out.size))
  have E := Lib.hid (E.out.below hb)
  clear hb hX
  obtain ⟨gb, hg⟩ : ∃ g, g = w4.heap.size := ⟨_, rfl⟩
  rw [← hg] at Pb ⊢
  clear hg
  obtain ⟨cl0, cl1, cl2, cl3, cl4, cl5, cl6, cl7⟩ := Pl.out.all
  obtain ⟨cb0, cb1, cb2, cb3, cb4, cb5, cb6, cb7⟩ := Pb.out.all
  go_wp2_with fail
  refine (HP.out _ E.out).mono ?_
  rintro e w5 ⟨rfl, hb⟩
  clear cl0 cl1 cl2 cl3 cl4 cl5 cl6 cl7 cb0 cb1 cb2 cb3 cb4 cb5 cb6 cb7
  have Pl := Lib.hid (Pl.out.keep hb)
  have Pb := Lib.hid (Pb.out.keep hb)
  have B := Lib.hid (B.out.trans (hb.mono B.out.size))
  have E := Lib.hid (E.out.below hb)
  clear hb
  obtain ⟨cl0, cl1, cl2, cl3, cl4, cl5, cl6, cl7⟩ := Pl.out.all
  obtain ⟨cb0, cb1, cb2, cb3, cb4, cb5, cb6, cb7⟩ := Pb.out.all
  go_wp2_with fail
  refine (HB.out _ E.out).mono ?_
  rintro e w6 ⟨rfl, hb⟩
  clear cl0 cl1 cl2 cl3 cl4 cl5 cl6 cl7 cb0 cb1 cb2 cb3 cb4 cb5 cb6 cb7
  have Pl := Lib.hid (Pl.out.keep hb)
  have Pb := Lib.hid (Pb.out.keep hb)
  have B := Lib.hid (B.out.trans (hb.mono B.out.size))
  have E := Lib.hid (E.out.below hb)
  clear hb
  go_upto_region 14 with fail
  obtain ⟨X6, hX⟩ : ∃ X, X = w6.alloc (.cells #[.int .i64 l.y, .int .i64 l.m, .int .i64 l.d, .int .i64 l.h, .int .i64 l.i, .int .i64 l.s, .int .i64 l.n, .int .i64 l.o] 23) := ⟨_, rfl⟩
  rw [← hX]
  have hb : Below w6.heap.size w6 X6 := by rw [hX]; exact bel_new _ _
  have Pc : Hid (Lk 23 X6 w6.heap.size l) := Lib.hid (by rw [hX]; exact lk_new _ _ l)
  have Pl := Lib.hid (Pl.out.keep hb)
  have Pb := Lib.hid (Pb.out.keep hb)
  have B := Lib.hid (B.out.trans (hb.mono B.out.size))
  have E := Lib.hid (E.out.below hb)
  clear hb hX
  obtain ⟨gc, hg⟩ : ∃ g, g = w6.heap.size := ⟨_, rfl⟩
  rw [← hg] at Pc ⊢
  clear hg
  obtain ⟨cl0, cl1, cl2, cl3, cl4, cl5, cl6, cl7⟩ := Pl.out.all
  obtain ⟨cb0, cb1, cb2, cb3, cb4, cb5, cb6, cb7⟩ := Pb.out.all
  go_wp2_with fail
  refine (HC.out _ E.out).mono ?_
  rintro e w7 ⟨rfl, hb⟩
  clear cl0 cl1 cl2 cl3 cl4 cl5 cl6 cl7 cb0 cb1 cb2 cb3 cb4 cb5 cb6 cb7
  have Pl := Lib.hid (Pl.out.keep hb)
  have Pb := Lib.hid (Pb.out.keep hb)
  have Pc := Lib.hid (Pc.out.keep hb)
  have B := Lib.hid (B.out.trans (hb.mono B.out.size))
  have E := Lib.hid (E.out.below hb)
  clear hb
  obtain ⟨cl0, cl1, cl2, cl3, cl4, cl5, cl6, cl7⟩ := Pl.out.all
  obtain ⟨cb0, cb1, cb2, cb3, cb4, cb5, cb6, cb7⟩ := Pb.out.all
  obtain ⟨cc0, cc1, cc2, cc3, cc4, cc5, cc6, cc7⟩ := Pc.out.all
  go_wp2_with fail
  go_ret
  exact ⟨rfl, B.out⟩

theorem lback_walk (l : Lb) (o : Int) (w : World) (he : Ends w) :
    Calls Tryd.prog 7 #[.agg l.cells, .int .i64 o] w fun e w' => e = .returned (.bool true) ∧ Below w.heap.size w w' := by
  by_cases h : lbE l = 0
  · by_cases k : mkE (lbN l) (lbT l) l.n o = 0
    · exact lback_ok l o h k w he
    · exact lback_far l o h k w he
  · exact lback_no l o h w he

end Go.Proofs.YtlnijcfgkhbfhaaDoor
