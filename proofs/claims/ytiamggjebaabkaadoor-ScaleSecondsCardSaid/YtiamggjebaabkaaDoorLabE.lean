/- Package label: UTC, Compare. -/
import Derived.Test.YtiamggjebaabkaaDoorLabD
import Derived.StillTailTactics
namespace Go.Proofs.YtiamggjebaabkaaDoor
open Go.RowKit
set_option linter.unusedVariables false

/-- Two blocks of two arguments. -/
theorem both_lk (T U : TypeId) (w : World) (a b : Lb) :
    Lk T ((w.alloc (.cells a.cells T)).alloc (.cells b.cells U)) w.heap.size a ∧ Lk U ((w.alloc (.cells a.cells T)).alloc (.cells b.cells U)) (w.heap.size + 1) b ∧ Below w.heap.size w ((w.alloc (.cells a.cells T)).alloc (.cells b.cells U)) := by
  have h1 := lk_new T w a
  have h2 := lk_new U (w.alloc (.cells a.cells T)) b
  rw [World.size_alloc] at h2
  exact ⟨h1.keep (bel_new _ _), h2, (bel_new w _).alloc (by simp) _⟩
theorem or3_is (a b : Lb) : or3 (cp (lbN a) (lbN b)) (cp (lbT a) (lbT b)) (cp a.n b.n) = cm3 a b := by
  unfold or3 cm3; rfl

set_option maxRecDepth 100000 in
set_option maxHeartbeats 4000000 in
theorem lcompare_any (a b : Lb) (w : World) (he : Ends w) :
    Calls Tryd.prog 32 #[.agg a.cells, .agg b.cells] w fun e w' => e = .returned (.tuple #[.int .i64 (cmV a b), ev (cmE a b)]) ∧ Below w.heap.size w w' := by
  obtain ⟨W0, hW0⟩ : ∃ W0, W0 = (w.alloc (.cells a.cells 26)).alloc (.cells b.cells 26) := ⟨_, rfl⟩
  obtain ⟨p0, z0, b0⟩ := both_lk 26 26 w a b
  rw [← hW0] at p0 z0 b0
  obtain ⟨c0, c1, c2, c3, c4, c5, c6, c7⟩ := p0.all
  have P0 := Lib.hid p0; have Z0 := Lib.hid z0; have B0 := Lib.hid b0
  have E0 := Lib.hid (he.below b0)
  have HA := Lib.hid (lsplit_any a W0 E0.out)
  have HB := Lib.hid (fun w he => lsplit_any b w he)
  have q0 := fun op t W x k => guard_ev op t W x k
  have q2 := fun W k => neq_ev W k
  have V : Hid (cmV a b = if cmE a b = 0 then cm3 a b else 0) := Lib.hid rfl
  have R : Hid (or3 (cp (lbN a) (lbN b)) (cp (lbT a) (lbT b)) (cp a.n b.n) = cm3 a b) := Lib.hid (or3_is a b)
  clear p0 z0 b0 he
  generalize cmV a b = v at *
  generalize cm3 a b = r at *
  by_cases h : lbE a = 0
  · rw [show cmE a b = lbE b from if_pos h] at V ⊢
    rw [h] at HA
    clear h
    by_cases k : lbE b = 0
    · rw [k] at HB V ⊢
      obtain rfl : v = r := by rw [V.out, if_pos rfl]
      clear k V
      generalize lbN a = N at *
      generalize lbT a = T at *
      generalize lbN b = M at *
      generalize lbT b = U at *
      go_enter Tryd.func32, Tryd.ntmps32
      go_upto_region 1 with fail
      rw [← hW0]; clear hW0
      go_wp2_with fail
      refine HA.out.mono ?_
      rintro e w1 ⟨rfl, hb⟩
      have P1 := Lib.hid (P0.out.keep hb); have Z1 := Lib.hid (Z0.out.keep hb)
      have B1 := Lib.hid (B0.out.trans (hb.mono B0.out.size))
      have E1 := Lib.hid (E0.out.below hb)
      clear hb c0 c1 c2 c3 c4 c5 c6 c7
      obtain ⟨c0, c1, c2, c3, c4, c5, c6, c7⟩ := Z1.out.all
      go_wp2_with fail
      refine (HB.out _ E1.out).mono ?_
      rintro e w2 ⟨rfl, hb⟩
      obtain ⟨-, -, -, -, -, -, p6, -⟩ := (P1.out.keep hb).all
      obtain ⟨-, -, -, -, -, -, z6, -⟩ := (Z1.out.keep hb).all
      have B2 := Lib.hid (B1.out.trans (hb.mono B1.out.size))
      clear hb c0 c1 c2 c3 c4 c5 c6 c7
      go_wp2_with fail
      refine wp_region_still_tail 11 (by kernel_rfl) (by kernel_rfl) ?_
      simp only [List.take_succ_cons, List.take_zero, List.drop_succ_cons, List.drop_zero]
      show wpStill _ _ w2.drew (fun a' => wpList _ _ _ _ a' w2.drew) _ _
      obtain ⟨w3, hw3⟩ : ∃ w3, w3 = w2.drew := ⟨_, rfl⟩
      have B3 : Hid (Below w.heap.size w w3) := Lib.hid (by rw [hw3]; exact B2.out.drew)
      have p6' : w3.cell? ⟨w.heap.size, 6, none⟩ = some (.int .i64 a.n) := by rw [hw3]; exact p6
      have z6' : w3.cell? ⟨w.heap.size + 1, 6, none⟩ = some (.int .i64 b.n) := by rw [hw3]; exact z6
      rw [← hw3]
      clear hw3 p6 z6
      still_step
      still_step
      still_call ((cmp_wide _ _ _).mono fun _ _ h => ⟨h.1, h.2.symm⟩)
      still_step
      still_step
      still_call ((cmp_any _ _ _).mono fun _ _ h => ⟨h.1, h.2.symm⟩)
      still_step
      still_step
      still_step
      still_step
      still_call ((cmp_any _ _ _).mono fun _ _ h => ⟨h.1, h.2.symm⟩)
      refine wpStill_nil ?_
      have h3 := heap_alloc_new w3 (.cells #[.int .i64 (cp N M), .int .i64 (cp T U), .int .i64 (cp a.n b.n)] 3)
      have HO := Lib.hid (or_any _ _ _ _ _ (bk_cell h3 0) (bk_cell h3 1) (bk_cell h3 2))
      clear h3
      go_wp2_with (go_at_call 52; refine HO.out.mono ?_; rintro e w' ⟨rfl, rfl⟩)
      go_ret2
      exact ⟨ret2_eq (int_eq R.out) rfl, B3.out.alloc B3.out.size _⟩
    · obtain rfl : v = 0 := by rw [V.out, if_neg k]
      have k' := ne_z k
      clear k V R
      generalize lbE b = E at *
      generalize lbN a = N at *
      generalize lbT a = T at *
      generalize lbN b = M at *
      generalize lbT b = U at *
      go_enter Tryd.func32, Tryd.ntmps32
      go_upto_region 1 with fail
      rw [← hW0]; clear hW0
      go_wp2_with fail
      refine HA.out.mono ?_
      rintro e w1 ⟨rfl, hb⟩
      have P1 := Lib.hid (P0.out.keep hb); have Z1 := Lib.hid (Z0.out.keep hb)
      have B1 := Lib.hid (B0.out.trans (hb.mono B0.out.size))
      have E1 := Lib.hid (E0.out.below hb)
      clear hb c0 c1 c2 c3 c4 c5 c6 c7
      obtain ⟨c0, c1, c2, c3, c4, c5, c6, c7⟩ := Z1.out.all
      go_wp2_with fail
      refine (HB.out _ E1.out).mono ?_
      rintro e w2 ⟨rfl, hb⟩
      have B2 := Lib.hid (B1.out.trans (hb.mono B1.out.size))
      clear hb c0 c1 c2 c3 c4 c5 c6 c7
      go_wp2_with fail
      go_ret2
      exact ⟨rfl, B2.out⟩
  · rw [show cmE a b = lbE a from if_neg h] at V ⊢
    obtain rfl : v = 0 := by rw [V.out, if_neg h]
    have h' := ne_z h
    clear h V R HB
    generalize lbE a = E at *
    generalize lbN a = N at *
    generalize lbT a = T at *
    go_enter Tryd.func32, Tryd.ntmps32
    go_upto_region 1 with fail
    rw [← hW0]; clear hW0
    go_wp2_with fail
    refine HA.out.mono ?_
    rintro e w1 ⟨rfl, hb⟩
    have B1 := Lib.hid (B0.out.trans (hb.mono B0.out.size))
    clear hb c0 c1 c2 c3 c4 c5 c6 c7
    go_wp2_with fail
    go_ret2
    exact ⟨rfl, B1.out⟩

end Go.Proofs.YtiamggjebaabkaaDoor
