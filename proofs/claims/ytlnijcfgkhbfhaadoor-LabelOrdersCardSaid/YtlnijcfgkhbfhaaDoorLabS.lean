/- LabelOrders. Written by gen_labr.py. -/
import Derived.Test.YtlnijcfgkhbfhaaDoorLabP
import Derived.Test.YtlnijcfgkhbfhaaDoorLabJ
import Derived.Test.YtlnijcfgkhbfhaaDoorTabs
namespace Go.Proofs.YtlnijcfgkhbfhaaDoor
open Go.RowKit
set_option linter.unusedVariables false

/-- Two moments, and a third: an error, or an order. -/
theorem cmV_facts (a b c : Lb) : cmE a b ≠ 0 ∨ (cmE a b = 0 ∧ cmE b a ≠ 0) ∨ (cmE a b = 0 ∧ cmE b a = 0 ∧ cmE b c ≠ 0) ∨ (cmE a b = 0 ∧ cmE b a = 0 ∧ cmE b c = 0 ∧ cmE a c ≠ 0) ∨
    (cmE a b = 0 ∧ cmE b a = 0 ∧ cmE b c = 0 ∧ cmE a c = 0 ∧ cmV b a = -cmV a b ∧ -1 ≤ cmV a b ∧ cmV a b ≤ 1 ∧ (cmV a b > 0 ∨ cmV b c > 0 ∨ cmV a c ≤ 0) ∧ (cmV a b ≥ 0 ∨ cmV b c > 0 ∨ cmV a c < 0)) := by
  by_cases h1 : cmE a b = 0
  · by_cases h2 : cmE b a = 0
    · by_cases h3 : cmE b c = 0
      · by_cases h4 : cmE a c = 0
        · refine .inr (.inr (.inr (.inr ⟨h1, h2, h3, h4, ?_⟩)))
          rw [show cmV a b = cm3 a b from if_pos h1, show cmV b a = cm3 b a from if_pos h2, show cmV b c = cm3 b c from if_pos h3, show cmV a c = cm3 a c from if_pos h4]
          have p := cm3_is a b
          exact ⟨by have := cm3_anti a b; omega, by omega, by omega, (cm3_trans a b c).1, (cm3_trans a b c).2⟩
        · exact .inr (.inr (.inr (.inl ⟨h1, h2, h3, h4⟩)))
      · exact .inr (.inr (.inl ⟨h1, h2, h3⟩))
    · exact .inr (.inl ⟨h1, h2⟩)
  · exact .inl h1
theorem three_lk (T : TypeId) (w : World) (a b c : Lb) :
    Lk T (((w.alloc (.cells a.cells T)).alloc (.cells b.cells T)).alloc (.cells c.cells T)) w.heap.size a ∧ Lk T (((w.alloc (.cells a.cells T)).alloc (.cells b.cells T)).alloc (.cells c.cells T)) (w.heap.size + 1) b ∧
    Lk T (((w.alloc (.cells a.cells T)).alloc (.cells b.cells T)).alloc (.cells c.cells T)) (w.heap.size + 1 + 1) c ∧ Below w.heap.size w (((w.alloc (.cells a.cells T)).alloc (.cells b.cells T)).alloc (.cells c.cells T)) := by
  obtain ⟨h1, h2, h3⟩ := both_lk T T w a b
  have h4 := lk_new T ((w.alloc (.cells a.cells T)).alloc (.cells b.cells T)) c
  rw [World.size_alloc, World.size_alloc] at h4
  exact ⟨h1.keep (bel_new _ _), h2.keep (bel_new _ _), h4, h3.alloc h3.size _⟩
theorem lrcompare_ks {bs : List (TypeId × Nat × Lb)} {w : World} (a b : Lb) (W : World) (h : Ks bs w W) :
    Calls Tryd.prog 23 #[.agg #[.int .i64 a.y, .int .i64 a.m, .int .i64 a.d, .int .i64 a.h, .int .i64 a.i, .int .i64 a.s, .int .i64 a.n, .int .i64 a.o], .agg #[.int .i64 b.y, .int .i64 b.m, .int .i64 b.d, .int .i64 b.h, .int .i64 b.i, .int .i64 b.s, .int .i64 b.n, .int .i64 b.o]] W fun e w' => e = .returned (.tuple #[.int .i64 (cmV a b), .int .i64 (cmE a b)]) ∧ Ks bs w w' :=
  (lrcompare_any a b W).mono fun e w' ⟨he, hb⟩ => ⟨he, h.step hb⟩

set_option maxRecDepth 100000 in
set_option maxHeartbeats 8000000 in
theorem lorders_walk (a b c : Lb) (w : World) (he : Ends w) :
    Calls Tryd.prog 6 #[.agg a.cells, .agg b.cells, .agg c.cells] w fun e w' => e = .returned (.bool true) ∧ Below w.heap.size w w' := by
  obtain ⟨W0, hW0⟩ : ∃ W0, W0 = ((w.alloc (.cells a.cells 23)).alloc (.cells b.cells 23)).alloc (.cells c.cells 23) := ⟨_, rfl⟩
  obtain ⟨pa, pb, pc, pB⟩ := three_lk 23 w a b c
  rw [← hW0] at pa pb pc pB
  have Pa := Lib.hid pa; have Pb := Lib.hid pb; have Pc := Lib.hid pc; have B := Lib.hid pB
  clear pa pb pc pB
  have E := Lib.hid (he.below B.out)
  have HA := Lib.hid (fun w he => lalive_any w he)
  have H0 := Lib.hid he
  clear he
  have HAB := Lib.hid (fun w he => lcompare_any a b w he)
  have HBA := Lib.hid (fun w he => lcompare_any b a w he)
  have HBC := Lib.hid (fun w he => lcompare_any b c w he)
  have HAC := Lib.hid (fun w he => lcompare_any a c w he)
  have HRK := Lib.hid (fun (W : World) (h : Ks [(23, w.heap.size, a), (23, w.heap.size + 1, b), (23, w.heap.size + 1 + 1, c)] w W) => lrcompare_ks a b W h)
  have EB := Lib.hid (cmE_lo a b)
  have q0 := fun op t W x k => guard_ev op t W x k
  have q2 := fun W k => neq_ev W k
  have C1 := Lib.hid (cmV_facts a b c)
  generalize cmV a b = x at *
  generalize cmV b a = y at *
  generalize cmV b c = z at *
  generalize cmV a c = v at *
  generalize cmE a b = F at *
  generalize cmE b a = G at *
  generalize cmE b c = H at *
  generalize cmE a c = I at *
  obtain ⟨ca0, ca1, ca2, ca3, ca4, ca5, ca6, ca7⟩ := Pa.out.all
  obtain ⟨cb0, cb1, cb2, cb3, cb4, cb5, cb6, cb7⟩ := Pb.out.all
  go_enter Tryd.func6, Tryd.ntmps6
  go_upto_region 1 with fail
  rw [← hW0]; clear hW0
  go_wp2_with fail
  refine (HA.out _ E.out).mono ?_
  rintro e w1 ⟨rfl, hb⟩
  clear ca0 ca1 ca2 ca3 ca4 ca5 ca6 ca7 cb0 cb1 cb2 cb3 cb4 cb5 cb6 cb7
  have Pa := Lib.hid (Pa.out.keep hb)
  have Pb := Lib.hid (Pb.out.keep hb)
  have Pc := Lib.hid (Pc.out.keep hb)
  have B := Lib.hid (B.out.trans (hb.mono B.out.size))
  have E := Lib.hid (E.out.below hb)
  clear hb
  obtain ⟨ca0, ca1, ca2, ca3, ca4, ca5, ca6, ca7⟩ := Pa.out.all
  obtain ⟨cb0, cb1, cb2, cb3, cb4, cb5, cb6, cb7⟩ := Pb.out.all
  go_wp2_with fail
  refine (HAB.out _ E.out).mono ?_
  rintro e w2 ⟨rfl, hb⟩
  clear ca0 ca1 ca2 ca3 ca4 ca5 ca6 ca7 cb0 cb1 cb2 cb3 cb4 cb5 cb6 cb7
  have Pa := Lib.hid (Pa.out.keep hb)
  have Pb := Lib.hid (Pb.out.keep hb)
  have Pc := Lib.hid (Pc.out.keep hb)
  have B := Lib.hid (B.out.trans (hb.mono B.out.size))
  have E := Lib.hid (E.out.below hb)
  clear hb
  go_wp2_with fail
  have hK : Ks [(23, w.heap.size, a), (23, w.heap.size + 1, b), (23, w.heap.size + 1 + 1, c)] w w2 := ⟨fun b hm => by simp at hm; rcases hm with rfl | rfl | rfl <;> first | exact Pa.out | exact Pb.out | exact Pc.out, B.out⟩
  have hs : Ends w2 := E.out
  have LE := Lib.hid (fun (W : World) (h : Ks [(23, w.heap.size, a), (23, w.heap.size + 1, b), (23, w.heap.size + 1 + 1, c)] w W) => h)
  have hKD := Ks.drew hK
  go_region_held3 (fun w' => w'.cell? ⟨w.heap.size, 0, none⟩ = some (.int .i64 a.y) ∧ w'.cell? ⟨w.heap.size, 1, none⟩ = some (.int .i64 a.m) ∧ w'.cell? ⟨w.heap.size, 2, none⟩ = some (.int .i64 a.d) ∧ w'.cell? ⟨w.heap.size, 3, none⟩ = some (.int .i64 a.h) ∧ w'.cell? ⟨w.heap.size, 4, none⟩ = some (.int .i64 a.i) ∧ w'.cell? ⟨w.heap.size, 5, none⟩ = some (.int .i64 a.s) ∧ w'.cell? ⟨w.heap.size, 6, none⟩ = some (.int .i64 a.n) ∧ w'.cell? ⟨w.heap.size, 7, none⟩ = some (.int .i64 a.o) ∧ w'.cell? ⟨w.heap.size + 1, 0, none⟩ = some (.int .i64 b.y) ∧ w'.cell? ⟨w.heap.size + 1, 1, none⟩ = some (.int .i64 b.m) ∧ w'.cell? ⟨w.heap.size + 1, 2, none⟩ = some (.int .i64 b.d) ∧ w'.cell? ⟨w.heap.size + 1, 3, none⟩ = some (.int .i64 b.h) ∧ w'.cell? ⟨w.heap.size + 1, 4, none⟩ = some (.int .i64 b.i) ∧ w'.cell? ⟨w.heap.size + 1, 5, none⟩ = some (.int .i64 b.s) ∧ w'.cell? ⟨w.heap.size + 1, 6, none⟩ = some (.int .i64 b.n) ∧ w'.cell? ⟨w.heap.size + 1, 7, none⟩ = some (.int .i64 b.o) ∧ Ks [(23, w.heap.size, a), (23, w.heap.size + 1, b), (23, w.heap.size + 1 + 1, c)] w w')
    (first | with_reducible exact Ks.cells3 (by assumption) | exact Ks.cells3 (by assumption))
    (first
      | (go_at_call 11; go_split_ands; with_reducible refine (ldoc_ks _ _ (by assumption)).mono ?_; rintro e wd ⟨rfl, hKd⟩)
      | (go_at_call 23; go_split_ands; refine (HRK.out _ (by first | with_reducible assumption | assumption)).mono ?_; rintro e wd ⟨rfl, hKd⟩))
  all_goals
    have hKK := LE.out _ (by assumption)
    have Pa := Lib.hid (hKK.lk (23, w.heap.size, a) (by simp))
    have Pb := Lib.hid (hKK.lk (23, w.heap.size + 1, b) (by simp))
    have Pc := Lib.hid (hKK.lk (23, w.heap.size + 1 + 1, c) (by simp))
    have B := Lib.hid hKK.bel
    have E := Lib.hid (H0.out.below hKK.bel)
    clear hKK
    obtain ⟨ca0, ca1, ca2, ca3, ca4, ca5, ca6, ca7⟩ := Pa.out.all
    obtain ⟨cb0, cb1, cb2, cb3, cb4, cb5, cb6, cb7⟩ := Pb.out.all
    go_wp2_with (go_at_call 12; with_reducible refine (num_any _ _ EB.out.1 EB.out.2).mono ?_; rintro e w' ⟨rfl, rfl⟩)
    refine (HBA.out _ E.out).mono ?_
    rintro e w3 ⟨rfl, hb⟩
    clear ca0 ca1 ca2 ca3 ca4 ca5 ca6 ca7 cb0 cb1 cb2 cb3 cb4 cb5 cb6 cb7
    have Pa := Lib.hid (Pa.out.keep hb)
    have Pb := Lib.hid (Pb.out.keep hb)
    have Pc := Lib.hid (Pc.out.keep hb)
    have B := Lib.hid (B.out.trans (hb.mono B.out.size))
    have E := Lib.hid (E.out.below hb)
    clear hb
    obtain ⟨cb0, cb1, cb2, cb3, cb4, cb5, cb6, cb7⟩ := Pb.out.all
    obtain ⟨cc0, cc1, cc2, cc3, cc4, cc5, cc6, cc7⟩ := Pc.out.all
    go_wp2_with fail
    refine (HBC.out _ E.out).mono ?_
    rintro e w4 ⟨rfl, hb⟩
    clear cb0 cb1 cb2 cb3 cb4 cb5 cb6 cb7 cc0 cc1 cc2 cc3 cc4 cc5 cc6 cc7
    have Pa := Lib.hid (Pa.out.keep hb)
    have Pb := Lib.hid (Pb.out.keep hb)
    have Pc := Lib.hid (Pc.out.keep hb)
    have B := Lib.hid (B.out.trans (hb.mono B.out.size))
    have E := Lib.hid (E.out.below hb)
    clear hb
    obtain ⟨ca0, ca1, ca2, ca3, ca4, ca5, ca6, ca7⟩ := Pa.out.all
    obtain ⟨cc0, cc1, cc2, cc3, cc4, cc5, cc6, cc7⟩ := Pc.out.all
    go_wp2_with fail
    refine (HAC.out _ E.out).mono ?_
    rintro e w5 ⟨rfl, hb⟩
    clear ca0 ca1 ca2 ca3 ca4 ca5 ca6 ca7 cc0 cc1 cc2 cc3 cc4 cc5 cc6 cc7
    have Pa := Lib.hid (Pa.out.keep hb)
    have Pb := Lib.hid (Pb.out.keep hb)
    have Pc := Lib.hid (Pc.out.keep hb)
    have B := Lib.hid (B.out.trans (hb.mono B.out.size))
    have E := Lib.hid (E.out.below hb)
    clear hb
    go_upto_region 10 with fail
    have C2 := C1.out
    rcases C2 with hh | ⟨rfl, hh⟩ | ⟨rfl, rfl, hh⟩ | ⟨rfl, rfl, rfl, hh⟩ | ⟨rfl, rfl, rfl, rfl, rfl, x0, x1, o1, o2⟩
    · have h1 := ne_z hh
      clear hh
      go_wp2_with fail
      go_ret
      exact ⟨rfl, B.out⟩
    · have h1 := ne_z hh
      clear hh
      go_wp2_with fail
      go_ret
      exact ⟨rfl, B.out⟩
    · have h1 := ne_z hh
      clear hh
      go_wp2_with fail
      go_ret
      exact ⟨rfl, B.out⟩
    · have h1 := ne_z hh
      clear hh
      go_wp2_with fail
      go_ret
      exact ⟨rfl, B.out⟩
    · rcases (by omega : x > 0 ∨ (x = 0 ∧ z > 0) ∨ (x < 0 ∧ z > 0) ∨ (x = 0 ∧ ¬ z > 0 ∧ v ≤ 0) ∨ (x < 0 ∧ ¬ z > 0 ∧ v < 0)) with hx | ⟨rfl, hz⟩ | ⟨hx, hz⟩ | ⟨rfl, hz, hv⟩ | ⟨hx, hz, hv⟩
      · have hx2 : x ≥ 0 := by omega
        clear o1 o2 C1
        go_wp2_with fail
        go_ret
        exact ⟨rfl, B.out⟩
      · clear o1 o2 C1
        go_wp2_with fail
        go_ret
        exact ⟨rfl, B.out⟩
      · have hx2 : ¬ x > 0 := by omega
        have hx3 : ¬ x ≥ 0 := by omega
        clear o1 o2 C1
        go_wp2_with fail
        go_ret
        exact ⟨rfl, B.out⟩
      · clear o1 o2 C1
        go_wp2_with fail
        go_ret
        exact ⟨rfl, B.out⟩
      · have hx2 : ¬ x > 0 := by omega
        have hx3 : ¬ x ≥ 0 := by omega
        have hv2 : v ≤ 0 := by omega
        clear o1 o2 C1
        go_wp2_with fail
        go_ret
        exact ⟨rfl, B.out⟩

end Go.Proofs.YtlnijcfgkhbfhaaDoor
