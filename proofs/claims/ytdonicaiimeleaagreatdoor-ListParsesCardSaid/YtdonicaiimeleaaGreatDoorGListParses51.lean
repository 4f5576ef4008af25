/- Merged: ListBC. -/
import Derived.Test.YtdonicaiimeleaaGreatDoorGListParses50
import Derived.Test.YtdonicaiimeleaaGreatDoorGListParses46
namespace Go.Proofs.YtdonicaiimeleaaGreatDoor
open Go.RowKit Go.WideShapes Go.ChangeShapes
set_option linter.unusedVariables false
set_option linter.unusedSimpArgs false

theorem five_dec (a b c d e : Bool) : (!a || (!b || (!c || (!d || !e)))) = !(a && (b && (c && (d && e)))) := by cases a <;> cases b <;> cases c <;> cases d <;> cases e <;> rfl
theorem eq5u (a0 a1 a2 a3 a4 b0 b1 b2 b3 b4 : Int) (w : World) : (Op.equalIn 10000 36 (.agg #[.int .u32 a0, .int .u32 a1, .int .u32 a2, .int .u32 a3, .int .u32 a4]) (.agg #[.int .u32 b0, .int .u32 b1, .int .u32 b2, .int .u32 b3, .int .u32 b4])).run Tryz.prog w = .ok (decide ([a0, a1, a2, a3, a4] = [b0, b1, b2, b3, b4])) w := by
  have u3 := Tryz.underlying35
  have e3 := Tryz.isAgg35
  have z3 := Tryz.sizeOf35
  rw [show (10000 : Nat) = 9999 + 1 from rfl, Op.equalIn]
  simp only [Sem.run_bind, run_underlying Tryz.underlying36, Result.andThen_ok]
  simp only [Std.Legacy.Range.forIn_eq_forIn_range', Std.Legacy.Range.size, Nat.sub_zero, Nat.add_sub_cancel, Nat.div_one, List.range'_succ, List.range'_zero, List.forIn_cons, List.forIn_nil]
  go_simp
  clear u3 e3 z3
  iterate 4 refine ite_ok _ _ _ ?_
  by_cases h : a4 = b4
  · rw [if_pos h, decide_eq_true h]
  · rw [if_neg h, decide_eq_false h]
theorem five_not (r : Rd11) (T : St) : (!decide (u T.a = r.x0) || (!decide (u T.b = r.x1) || (!decide (u T.c = r.x2) || (!decide (u T.d = r.x3) || !decide (u T.e = r.x4))))) = !decide (sm11 r T) := by
  rw [five_dec]
  congr 1
  rw [← Bool.decide_and, ← Bool.decide_and, ← Bool.decide_and, ← Bool.decide_and]
  exact decide_eq_decide.2 Iff.rfl

set_option maxRecDepth 100000 in
set_option maxHeartbeats 4000000 in
theorem rparse_num (t : ByteArray) (w : World) (n : Int) (hn : FA t.data.toList n) (hE : aE11 t.data.toList ≠ 0) :
    Calls Tryz.prog 6 #[.string t] w fun x w' => x = .returned (.tuple #[.agg #[.slice none 0 0, .int .i64 0, .int .i64 0], .int .i64 (aE11 t.data.toList)]) ∧ Below w.heap.size w w' := by
  have HA := Lib.hid (fun w => all11_n t w n hn)
  have HBD := Lib.hid (aR_bd t.data.toList)
  generalize aR11 t.data.toList = r at *
  generalize aE11 t.data.toList = E at *
  obtain ⟨W0, hW0⟩ : ∃ W0, W0 = w.alloc (.cells #[.slice none 0 0, .int .i64 0, .int .i64 0] 30) := ⟨_, rfl⟩
  have Z0 : Hid (W0.heap[w.heap.size]? = some (.cells #[.slice none 0 0, .int .i64 0, .int .i64 0] 30 (0, 0))) := Lib.hid (by rw [hW0]; exact heap_alloc_new w _)
  have B0 : Hid (Below w.heap.size w W0) := Lib.hid (by rw [hW0]; exact (Below.refl _ _).alloc (Nat.le_refl _) _)
  have hEb : (E != 0) = true := bne_iff_ne.mpr hE
  clear hE
  go_enter Tryz.func6, Tryz.ntmps6
  go_upto_region 1 with fail
  rw [← hW0]; clear hW0
  go_upto_region 2 with (go_at_call 9; refine (HA.out _).mono ?_; rintro e w1 ⟨A, c, rfl, hr, hA, hX, hb⟩; have NA : Hid (∀ b off, A = some ⟨b, off, none⟩ → w.heap.size ≠ b) := Lib.hid (fun b off h => by have := hX b off h; have := bk_lt Z0.out; omega); have R1 := Lib.hid hr; have N1 := Lib.hid hA; have Z1 := Lib.hid ((hb.block _ (bk_lt Z0.out)).trans Z0.out); have B1 := Lib.hid (B0.out.trans (hb.mono B0.out.size)); have LZ := Lib.hid (bk_lt Z1.out); clear hr hA hX hb HA)
  have G2 := heap_alloc_new w1 (.cells (rcR A c r n E) 38)
  have hb : Below w1.heap.size w1 (w1.alloc (.cells (rcR A c r n E) 38)) := (Below.refl _ _).alloc (Nat.le_refl _) _
  generalize World.alloc w1 _ = W2 at *
  have GB : Hid (B13 W2 w1.heap.size (rcR A c r n E)) := Lib.hid G2
  have R2 := Lib.hid ((R1.out.below hb).mono hb.size)
  have Z2 := Lib.hid ((hb.block _ (bk_lt Z1.out)).trans Z1.out)
  have B2 := Lib.hid (B1.out.trans (hb.mono B1.out.size))
  clear G2 hb R1 Z1 B1 Z0 B0
  obtain ⟨q, hq⟩ : ∃ q, q = w1.heap.size := ⟨_, rfl⟩
  rw [← hq] at GB LZ
  rw [← hq]
  clear hq w1
  have ne1 : w.heap.size ≠ q := Nat.ne_of_lt LZ.out
  have ne2 : q ≠ w.heap.size := Ne.symm ne1
  obtain ⟨c0, c1, c2, c3, c4, c5, c6, c7, c8, c9, c10, c11, c12⟩ := GB.out.all
  have z0 := bk_cell Z2.out 0; have z1 := bk_cell Z2.out 1; have z2 := bk_cell Z2.out 2
  have y0 := bk_free Z2.out 0; have y1 := bk_free Z2.out 1; have y2 := bk_free Z2.out 2
  go_upto_region 3 with fail
  go_region
  all_goals
    go_wp2_with fail
    have rr := bk_set (bk_set (bk_set Z2.out 0 (.slice none 0 0)) 1 (.int .i64 0)) 2 (.int .i64 0)
    have s0 := bk_cell rr 0; have s1 := bk_cell rr 1; have s2 := bk_cell rr 2
    have BV := (((B2.out.setCell (p := ⟨w.heap.size, 0, none⟩) (Nat.le_refl _) (.slice none 0 0)).setCell (p := ⟨w.heap.size, 1, none⟩) (Nat.le_refl _) (.int .i64 0)).setCell (p := ⟨w.heap.size, 2, none⟩) (Nat.le_refl _) (.int .i64 0))
    refine bodyPost_ret (v := .tuple #[.agg #[.slice none 0 0, .int .i64 0, .int .i64 0], .int .i64 E]) (by simp [results, Tryz.results6, go_sem, s0, s1, s2]) rfl ?_
    first
      | exact ⟨rfl, BV⟩
      | exact ⟨rfl, BV.drew⟩

set_option maxRecDepth 100000 in
set_option maxHeartbeats 4000000 in
theorem rparse_made (t : ByteArray) (w : World) (n : Int) (hn : FA t.data.toList n) (hE : aE11 t.data.toList = 0) (hm : (aR11 t.data.toList).m = 0) :
    Calls Tryz.prog 6 #[.string t] w fun x w' => x = .returned (.tuple #[.agg #[.slice none 0 0, .int .i64 0, .int .i64 0], .int .i64 2]) ∧ Below w.heap.size w w' := by
  have HA := Lib.hid (fun w => all11_n t w n hn)
  have HBD := Lib.hid (aR_bd t.data.toList)
  generalize aR11 t.data.toList = r at *
  generalize aE11 t.data.toList = E at *
  obtain ⟨W0, hW0⟩ : ∃ W0, W0 = w.alloc (.cells #[.slice none 0 0, .int .i64 0, .int .i64 0] 30) := ⟨_, rfl⟩
  have Z0 : Hid (W0.heap[w.heap.size]? = some (.cells #[.slice none 0 0, .int .i64 0, .int .i64 0] 30 (0, 0))) := Lib.hid (by rw [hW0]; exact heap_alloc_new w _)
  have B0 : Hid (Below w.heap.size w W0) := Lib.hid (by rw [hW0]; exact (Below.refl _ _).alloc (Nat.le_refl _) _)
  subst hE
  have hmb : (r.m == 0) = true := beq_iff_eq.mpr hm
  clear hm
  go_enter Tryz.func6, Tryz.ntmps6
  go_upto_region 1 with fail
  rw [← hW0]; clear hW0
  go_upto_region 2 with (go_at_call 9; refine (HA.out _).mono ?_; rintro e w1 ⟨A, c, rfl, hr, hA, hX, hb⟩; have NA : Hid (∀ b off, A = some ⟨b, off, none⟩ → w.heap.size ≠ b) := Lib.hid (fun b off h => by have := hX b off h; have := bk_lt Z0.out; omega); have R1 := Lib.hid hr; have N1 := Lib.hid hA; have Z1 := Lib.hid ((hb.block _ (bk_lt Z0.out)).trans Z0.out); have B1 := Lib.hid (B0.out.trans (hb.mono B0.out.size)); have LZ := Lib.hid (bk_lt Z1.out); clear hr hA hX hb HA)
  have G2 := heap_alloc_new w1 (.cells (rcR A c r n 0) 38)
  have hb : Below w1.heap.size w1 (w1.alloc (.cells (rcR A c r n 0) 38)) := (Below.refl _ _).alloc (Nat.le_refl _) _
  generalize World.alloc w1 _ = W2 at *
  have GB : Hid (B13 W2 w1.heap.size (rcR A c r n 0)) := Lib.hid G2
  have R2 := Lib.hid ((R1.out.below hb).mono hb.size)
  have Z2 := Lib.hid ((hb.block _ (bk_lt Z1.out)).trans Z1.out)
  have B2 := Lib.hid (B1.out.trans (hb.mono B1.out.size))
  clear G2 hb R1 Z1 B1 Z0 B0
  obtain ⟨q, hq⟩ : ∃ q, q = w1.heap.size := ⟨_, rfl⟩
  rw [← hq] at GB LZ
  rw [← hq]
  clear hq w1
  have ne1 : w.heap.size ≠ q := Nat.ne_of_lt LZ.out
  have ne2 : q ≠ w.heap.size := Ne.symm ne1
  obtain ⟨c0, c1, c2, c3, c4, c5, c6, c7, c8, c9, c10, c11, c12⟩ := GB.out.all
  have z0 := bk_cell Z2.out 0; have z1 := bk_cell Z2.out 1; have z2 := bk_cell Z2.out 2
  have y0 := bk_free Z2.out 0; have y1 := bk_free Z2.out 1; have y2 := bk_free Z2.out 2
  go_wp2_with fail
  have rr := bk_set (bk_set (bk_set Z2.out 0 (.slice none 0 0)) 1 (.int .i64 0)) 2 (.int .i64 0)
  have s0 := bk_cell rr 0; have s1 := bk_cell rr 1; have s2 := bk_cell rr 2
  have BV := (((B2.out.setCell (p := ⟨w.heap.size, 0, none⟩) (Nat.le_refl _) (.slice none 0 0)).setCell (p := ⟨w.heap.size, 1, none⟩) (Nat.le_refl _) (.int .i64 0)).setCell (p := ⟨w.heap.size, 2, none⟩) (Nat.le_refl _) (.int .i64 0))
  refine bodyPost_ret (v := .tuple #[.agg #[.slice none 0 0, .int .i64 0, .int .i64 0], .int .i64 2]) (by simp [results, Tryz.results6, go_sem, s0, s1, s2]) rfl ?_
  first
    | exact ⟨rfl, BV⟩
    | exact ⟨rfl, BV.drew⟩

set_option maxRecDepth 100000 in
set_option maxHeartbeats 4000000 in
theorem rparse_hold (t : ByteArray) (w : World) (n : Int) (hn : FA t.data.toList n) (hE : aE11 t.data.toList = 0) (hm : (aR11 t.data.toList).m ≠ 0) (hh : (aR11 t.data.toList).h = 0) :
    Calls Tryz.prog 6 #[.string t] w fun x w' => x = .returned (.tuple #[.agg #[.slice none 0 0, .int .i64 0, .int .i64 0], .int .i64 2]) ∧ Below w.heap.size w w' := by
  have HA := Lib.hid (fun w => all11_n t w n hn)
  have HBD := Lib.hid (aR_bd t.data.toList)
  generalize aR11 t.data.toList = r at *
  generalize aE11 t.data.toList = E at *
  obtain ⟨W0, hW0⟩ : ∃ W0, W0 = w.alloc (.cells #[.slice none 0 0, .int .i64 0, .int .i64 0] 30) := ⟨_, rfl⟩
  have Z0 : Hid (W0.heap[w.heap.size]? = some (.cells #[.slice none 0 0, .int .i64 0, .int .i64 0] 30 (0, 0))) := Lib.hid (by rw [hW0]; exact heap_alloc_new w _)
  have B0 : Hid (Below w.heap.size w W0) := Lib.hid (by rw [hW0]; exact (Below.refl _ _).alloc (Nat.le_refl _) _)
  subst hE
  have hmb : (r.m == 0) = false := beq_eq_false_iff_ne.mpr hm
  have hhb : (r.h == 0) = true := beq_iff_eq.mpr hh
  clear hm hh
  go_enter Tryz.func6, Tryz.ntmps6
  go_upto_region 1 with fail
  rw [← hW0]; clear hW0
  go_upto_region 2 with (go_at_call 9; refine (HA.out _).mono ?_; rintro e w1 ⟨A, c, rfl, hr, hA, hX, hb⟩; have NA : Hid (∀ b off, A = some ⟨b, off, none⟩ → w.heap.size ≠ b) := Lib.hid (fun b off h => by have := hX b off h; have := bk_lt Z0.out; omega); have R1 := Lib.hid hr; have N1 := Lib.hid hA; have Z1 := Lib.hid ((hb.block _ (bk_lt Z0.out)).trans Z0.out); have B1 := Lib.hid (B0.out.trans (hb.mono B0.out.size)); have LZ := Lib.hid (bk_lt Z1.out); clear hr hA hX hb HA)
  have G2 := heap_alloc_new w1 (.cells (rcR A c r n 0) 38)
  have hb : Below w1.heap.size w1 (w1.alloc (.cells (rcR A c r n 0) 38)) := (Below.refl _ _).alloc (Nat.le_refl _) _
  generalize World.alloc w1 _ = W2 at *
  have GB : Hid (B13 W2 w1.heap.size (rcR A c r n 0)) := Lib.hid G2
  have R2 := Lib.hid ((R1.out.below hb).mono hb.size)
  have Z2 := Lib.hid ((hb.block _ (bk_lt Z1.out)).trans Z1.out)
  have B2 := Lib.hid (B1.out.trans (hb.mono B1.out.size))
  clear G2 hb R1 Z1 B1 Z0 B0
  obtain ⟨q, hq⟩ : ∃ q, q = w1.heap.size := ⟨_, rfl⟩
  rw [← hq] at GB LZ
  rw [← hq]
  clear hq w1
  have ne1 : w.heap.size ≠ q := Nat.ne_of_lt LZ.out
  have ne2 : q ≠ w.heap.size := Ne.symm ne1
  obtain ⟨c0, c1, c2, c3, c4, c5, c6, c7, c8, c9, c10, c11, c12⟩ := GB.out.all
  have z0 := bk_cell Z2.out 0; have z1 := bk_cell Z2.out 1; have z2 := bk_cell Z2.out 2
  have y0 := bk_free Z2.out 0; have y1 := bk_free Z2.out 1; have y2 := bk_free Z2.out 2
  go_wp2_with fail
  have rr := bk_set (bk_set (bk_set Z2.out 0 (.slice none 0 0)) 1 (.int .i64 0)) 2 (.int .i64 0)
  have s0 := bk_cell rr 0; have s1 := bk_cell rr 1; have s2 := bk_cell rr 2
  have BV := (((B2.out.setCell (p := ⟨w.heap.size, 0, none⟩) (Nat.le_refl _) (.slice none 0 0)).setCell (p := ⟨w.heap.size, 1, none⟩) (Nat.le_refl _) (.int .i64 0)).setCell (p := ⟨w.heap.size, 2, none⟩) (Nat.le_refl _) (.int .i64 0))
  refine bodyPost_ret (v := .tuple #[.agg #[.slice none 0 0, .int .i64 0, .int .i64 0], .int .i64 2]) (by simp [results, Tryz.results6, go_sem, s0, s1, s2]) rfl ?_
  first
    | exact ⟨rfl, BV⟩
    | exact ⟨rfl, BV.drew⟩

set_option maxRecDepth 100000 in
set_option maxHeartbeats 4000000 in
theorem rparse_check (t : ByteArray) (w : World) (n : Int) (hn : FA t.data.toList n) (hE : aE11 t.data.toList = 0) (hm : (aR11 t.data.toList).m ≠ 0) (hh : (aR11 t.data.toList).h ≠ 0) (hk : lkE (aR11 t.data.toList).L (aR11 t.data.toList).u (aR11 t.data.toList).e ≠ 0) :
    Calls Tryz.prog 6 #[.string t] w fun x w' => x = .returned (.tuple #[.agg #[.slice none 0 0, .int .i64 0, .int .i64 0], .int .i64 (lkE (aR11 t.data.toList).L (aR11 t.data.toList).u (aR11 t.data.toList).e)]) ∧ Below w.heap.size w w' := by
  have HA := Lib.hid (fun w => all11_n t w n hn)
  have HBD := Lib.hid (aR_bd t.data.toList)
  generalize aR11 t.data.toList = r at *
  generalize aE11 t.data.toList = E at *
  obtain ⟨W0, hW0⟩ : ∃ W0, W0 = w.alloc (.cells #[.slice none 0 0, .int .i64 0, .int .i64 0] 30) := ⟨_, rfl⟩
  have Z0 : Hid (W0.heap[w.heap.size]? = some (.cells #[.slice none 0 0, .int .i64 0, .int .i64 0] 30 (0, 0))) := Lib.hid (by rw [hW0]; exact heap_alloc_new w _)
  have B0 : Hid (Below w.heap.size w W0) := Lib.hid (by rw [hW0]; exact (Below.refl _ _).alloc (Nat.le_refl _) _)
  subst hE
  have hmb : (r.m == 0) = false := beq_eq_false_iff_ne.mpr hm
  have hhb : (r.h == 0) = false := beq_eq_false_iff_ne.mpr hh
  clear hm hh
  obtain ⟨F, hF⟩ : ∃ F, F = lkE r.L r.u r.e := ⟨_, rfl⟩
  rw [← hF] at hk ⊢
  have HF := Lib.hid hF
  have hkb : (F != 0) = true := bne_iff_ne.mpr hk
  clear hk hF
  go_enter Tryz.func6, Tryz.ntmps6
  go_upto_region 1 with fail
  rw [← hW0]; clear hW0
  go_upto_region 2 with (go_at_call 9; refine (HA.out _).mono ?_; rintro e w1 ⟨A, c, rfl, hr, hA, hX, hb⟩; have NA : Hid (∀ b off, A = some ⟨b, off, none⟩ → w.heap.size ≠ b) := Lib.hid (fun b off h => by have := hX b off h; have := bk_lt Z0.out; omega); have R1 := Lib.hid hr; have N1 := Lib.hid hA; have Z1 := Lib.hid ((hb.block _ (bk_lt Z0.out)).trans Z0.out); have B1 := Lib.hid (B0.out.trans (hb.mono B0.out.size)); have LZ := Lib.hid (bk_lt Z1.out); clear hr hA hX hb HA)
  have G2 := heap_alloc_new w1 (.cells (rcR A c r n 0) 38)
  have hb : Below w1.heap.size w1 (w1.alloc (.cells (rcR A c r n 0) 38)) := (Below.refl _ _).alloc (Nat.le_refl _) _
  generalize World.alloc w1 _ = W2 at *
  have GB : Hid (B13 W2 w1.heap.size (rcR A c r n 0)) := Lib.hid G2
  have R2 := Lib.hid ((R1.out.below hb).mono hb.size)
  have Z2 := Lib.hid ((hb.block _ (bk_lt Z1.out)).trans Z1.out)
  have B2 := Lib.hid (B1.out.trans (hb.mono B1.out.size))
  clear G2 hb R1 Z1 B1 Z0 B0
  obtain ⟨q, hq⟩ : ∃ q, q = w1.heap.size := ⟨_, rfl⟩
  rw [← hq] at GB LZ
  rw [← hq]
  clear hq w1
  have ne1 : w.heap.size ≠ q := Nat.ne_of_lt LZ.out
  have ne2 : q ≠ w.heap.size := Ne.symm ne1
  obtain ⟨c0, c1, c2, c3, c4, c5, c6, c7, c8, c9, c10, c11, c12⟩ := GB.out.all
  have z0 := bk_cell Z2.out 0; have z1 := bk_cell Z2.out 1; have z2 := bk_cell Z2.out 2
  have y0 := bk_free Z2.out 0; have y1 := bk_free Z2.out 1; have y2 := bk_free Z2.out 2
  go_upto_region 7 with (go_at_call 14; refine (rcheck10_any A c r.L r.u r.e _ R2.out HBD.out.1).mono ?_; rw [← HF.out]; rintro e w3 ⟨rfl, hb⟩; have Z2 := Lib.hid ((hb.block _ (bk_lt Z2.out)).trans Z2.out); have GB := Lib.hid (GB.out.keep hb); have R2 := Lib.hid ((R2.out.below hb).mono hb.size); have B2 := Lib.hid (B2.out.trans (hb.mono B2.out.size)); clear hb c0 c1 c2 c3 c4 c5 c6 c7 c8 c9 c10 c11 c12 z0 z1 z2 y0 y1 y2)
  obtain ⟨c0, c1, c2, c3, c4, c5, c6, c7, c8, c9, c10, c11, c12⟩ := GB.out.all
  have z0 := bk_cell Z2.out 0; have z1 := bk_cell Z2.out 1; have z2 := bk_cell Z2.out 2
  have y0 := bk_free Z2.out 0; have y1 := bk_free Z2.out 1; have y2 := bk_free Z2.out 2
  go_wp2_with fail
  have rr := bk_set (bk_set (bk_set Z2.out 0 (.slice none 0 0)) 1 (.int .i64 0)) 2 (.int .i64 0)
  have s0 := bk_cell rr 0; have s1 := bk_cell rr 1; have s2 := bk_cell rr 2
  have BV := (((B2.out.setCell (p := ⟨w.heap.size, 0, none⟩) (Nat.le_refl _) (.slice none 0 0)).setCell (p := ⟨w.heap.size, 1, none⟩) (Nat.le_refl _) (.int .i64 0)).setCell (p := ⟨w.heap.size, 2, none⟩) (Nat.le_refl _) (.int .i64 0))
  refine bodyPost_ret (v := .tuple #[.agg #[.slice none 0 0, .int .i64 0, .int .i64 0], .int .i64 F]) (by simp [results, Tryz.results6, go_sem, s0, s1, s2]) rfl ?_
  first
    | exact ⟨rfl, BV⟩
    | exact ⟨rfl, BV.drew⟩

set_option maxRecDepth 100000 in
set_option maxHeartbeats 4000000 in
theorem rparse_nosum (t : ByteArray) (w : World) (n : Int) (hn : FA t.data.toList n) (hE : aE11 t.data.toList = 0) (hm : (aR11 t.data.toList).m ≠ 0) (hh : (aR11 t.data.toList).h ≠ 0) (hk : lkE (aR11 t.data.toList).L (aR11 t.data.toList).u (aR11 t.data.toList).e = 0) (hs : (aR11 t.data.toList).s = 0) :
    Calls Tryz.prog 6 #[.string t] w fun x w' => ∃ A c, x = .returned (.tuple #[.agg #[.slice A (aR11 t.data.toList).L.length c, .int .i64 (aR11 t.data.toList).u, .int .i64 (aR11 t.data.toList).e], .int .i64 0]) ∧ Rp w'.heap.size w' A (aR11 t.data.toList).L ∧ Below w.heap.size w w' := by
  have HA := Lib.hid (fun w => all11_n t w n hn)
  have HBD := Lib.hid (aR_bd t.data.toList)
  generalize aR11 t.data.toList = r at *
  generalize aE11 t.data.toList = E at *
  obtain ⟨W0, hW0⟩ : ∃ W0, W0 = w.alloc (.cells #[.slice none 0 0, .int .i64 0, .int .i64 0] 30) := ⟨_, rfl⟩
  have Z0 : Hid (W0.heap[w.heap.size]? = some (.cells #[.slice none 0 0, .int .i64 0, .int .i64 0] 30 (0, 0))) := Lib.hid (by rw [hW0]; exact heap_alloc_new w _)
  have B0 : Hid (Below w.heap.size w W0) := Lib.hid (by rw [hW0]; exact (Below.refl _ _).alloc (Nat.le_refl _) _)
  subst hE
  have hmb : (r.m == 0) = false := beq_eq_false_iff_ne.mpr hm
  have hhb : (r.h == 0) = false := beq_eq_false_iff_ne.mpr hh
  clear hm hh
  have HK := Lib.hid hk
  clear hk
  have hsb : decide (0 < r.s) = false := decide_eq_false (by omega)
  clear hs
  go_enter Tryz.func6, Tryz.ntmps6
  go_upto_region 1 with fail
  rw [← hW0]; clear hW0
  go_upto_region 2 with (go_at_call 9; refine (HA.out _).mono ?_; rintro e w1 ⟨A, c, rfl, hr, hA, hX, hb⟩; have NA : Hid (∀ b off, A = some ⟨b, off, none⟩ → w.heap.size ≠ b) := Lib.hid (fun b off h => by have := hX b off h; have := bk_lt Z0.out; omega); have R1 := Lib.hid hr; have N1 := Lib.hid hA; have Z1 := Lib.hid ((hb.block _ (bk_lt Z0.out)).trans Z0.out); have B1 := Lib.hid (B0.out.trans (hb.mono B0.out.size)); have LZ := Lib.hid (bk_lt Z1.out); clear hr hA hX hb HA)
  have G2 := heap_alloc_new w1 (.cells (rcR A c r n 0) 38)
  have hb : Below w1.heap.size w1 (w1.alloc (.cells (rcR A c r n 0) 38)) := (Below.refl _ _).alloc (Nat.le_refl _) _
  generalize World.alloc w1 _ = W2 at *
  have GB : Hid (B13 W2 w1.heap.size (rcR A c r n 0)) := Lib.hid G2
  have R2 := Lib.hid ((R1.out.below hb).mono hb.size)
  have Z2 := Lib.hid ((hb.block _ (bk_lt Z1.out)).trans Z1.out)
  have B2 := Lib.hid (B1.out.trans (hb.mono B1.out.size))
  clear G2 hb R1 Z1 B1 Z0 B0
  obtain ⟨q, hq⟩ : ∃ q, q = w1.heap.size := ⟨_, rfl⟩
  rw [← hq] at GB LZ
  rw [← hq]
  clear hq w1
  have ne1 : w.heap.size ≠ q := Nat.ne_of_lt LZ.out
  have ne2 : q ≠ w.heap.size := Ne.symm ne1
  obtain ⟨c0, c1, c2, c3, c4, c5, c6, c7, c8, c9, c10, c11, c12⟩ := GB.out.all
  have z0 := bk_cell Z2.out 0; have z1 := bk_cell Z2.out 1; have z2 := bk_cell Z2.out 2
  have y0 := bk_free Z2.out 0; have y1 := bk_free Z2.out 1; have y2 := bk_free Z2.out 2
  go_upto_region 7 with (go_at_call 14; refine (rcheck10_any A c r.L r.u r.e _ R2.out HBD.out.1).mono ?_; rw [HK.out]; rintro e w3 ⟨rfl, hb⟩; have Z2 := Lib.hid ((hb.block _ (bk_lt Z2.out)).trans Z2.out); have GB := Lib.hid (GB.out.keep hb); have R2 := Lib.hid ((R2.out.below hb).mono hb.size); have B2 := Lib.hid (B2.out.trans (hb.mono B2.out.size)); clear hb c0 c1 c2 c3 c4 c5 c6 c7 c8 c9 c10 c11 c12 z0 z1 z2 y0 y1 y2)
  obtain ⟨c0, c1, c2, c3, c4, c5, c6, c7, c8, c9, c10, c11, c12⟩ := GB.out.all
  have z0 := bk_cell Z2.out 0; have z1 := bk_cell Z2.out 1; have z2 := bk_cell Z2.out 2
  have y0 := bk_free Z2.out 0; have y1 := bk_free Z2.out 1; have y2 := bk_free Z2.out 2
  go_upto_region 9 with fail
  go_quiet (fail)
  obtain ⟨W6, hW6⟩ : ∃ W, W = w3.drewN nq := ⟨_, rfl⟩
  rw [← hW6]
  have Z6 : Hid (W6.heap[w.heap.size]? = some (.cells #[.slice none 0 0, .int .i64 0, .int .i64 0] 30 (0, 0))) := Lib.hid (by rw [hW6]; exact Z2.out)
  have G6 : Hid (B13 W6 q (rcR A c r n 0)) := Lib.hid (by rw [hW6]; exact GB.out)
  have R6 : Hid (Rp W6.heap.size W6 A r.L) := Lib.hid (by rw [hW6]; exact R2.out)
  have B6 : Hid (Below w.heap.size w W6) := Lib.hid (by rw [hW6]; exact ⟨B2.out.os, B2.out.tape, B2.out.output, B2.out.size, B2.out.block⟩)
  clear c0 c1 c2 c3 c4 c5 c6 c7 c8 c9 c10 c11 c12 z0 z1 z2 y0 y1 y2
  clear hW6
  obtain ⟨c0, c1, c2, c3, c4, c5, c6, c7, c8, c9, c10, c11, c12⟩ := G6.out.all
  have z0 := bk_cell Z6.out 0; have z1 := bk_cell Z6.out 1; have z2 := bk_cell Z6.out 2
  have y0 := bk_free Z6.out 0; have y1 := bk_free Z6.out 1; have y2 := bk_free Z6.out 2
  go_wp2_with fail
  have rr := bk_set (bk_set (bk_set Z6.out 0 (.slice A r.L.length c)) 1 (.int .i64 r.u)) 2 (.int .i64 r.e)
  have s0 := bk_cell rr 0; have s1 := bk_cell rr 1; have s2 := bk_cell rr 2
  have BV := (((B6.out.setCell (p := ⟨w.heap.size, 0, none⟩) (Nat.le_refl _) (.slice A r.L.length c)).setCell (p := ⟨w.heap.size, 1, none⟩) (Nat.le_refl _) (.int .i64 r.u)).setCell (p := ⟨w.heap.size, 2, none⟩) (Nat.le_refl _) (.int .i64 r.e))
  refine bodyPost_ret (v := .tuple #[.agg #[.slice A r.L.length c, .int .i64 r.u, .int .i64 r.e], .int .i64 0]) (by simp [results, Tryz.results6, go_sem, s0, s1, s2]) rfl ⟨A, c, rfl, ?_, BV⟩
  exact ((((R6.out.set w.heap.size 0 _ NA.out).set w.heap.size 1 _ NA.out).set w.heap.size 2 _ NA.out)).low

set_option maxRecDepth 100000 in
set_option maxHeartbeats 4000000 in
theorem rparse_sum (t : ByteArray) (w : World) (n : Int) (hn : FA t.data.toList n) (hE : aE11 t.data.toList = 0) (hm : (aR11 t.data.toList).m ≠ 0) (hh : (aR11 t.data.toList).h ≠ 0) (hk : lkE (aR11 t.data.toList).L (aR11 t.data.toList).u (aR11 t.data.toList).e = 0) (hs : 0 < (aR11 t.data.toList).s) (hsm : ¬ sm11 (aR11 t.data.toList) (dig (dgT (aR11 t.data.toList).L (aR11 t.data.toList).u (aR11 t.data.toList).e))) :
    Calls Tryz.prog 6 #[.string t] w fun x w' => x = .returned (.tuple #[.agg #[.slice none 0 0, .int .i64 0, .int .i64 0], .int .i64 7]) ∧ Below w.heap.size w w' := by
  have HA := Lib.hid (fun w => all11_n t w n hn)
  have HBD := Lib.hid (aR_bd t.data.toList)
  generalize aR11 t.data.toList = r at *
  generalize aE11 t.data.toList = E at *
  obtain ⟨W0, hW0⟩ : ∃ W0, W0 = w.alloc (.cells #[.slice none 0 0, .int .i64 0, .int .i64 0] 30) := ⟨_, rfl⟩
  have Z0 : Hid (W0.heap[w.heap.size]? = some (.cells #[.slice none 0 0, .int .i64 0, .int .i64 0] 30 (0, 0))) := Lib.hid (by rw [hW0]; exact heap_alloc_new w _)
  have B0 : Hid (Below w.heap.size w W0) := Lib.hid (by rw [hW0]; exact (Below.refl _ _).alloc (Nat.le_refl _) _)
  subst hE
  have hmb : (r.m == 0) = false := beq_eq_false_iff_ne.mpr hm
  have hhb : (r.h == 0) = false := beq_eq_false_iff_ne.mpr hh
  clear hm hh
  have HK := Lib.hid hk
  clear hk
  have hsb : decide (0 < r.s) = true := decide_eq_true hs
  have HSM : Hid (decide (sm11 r (dig (dgT r.L r.u r.e))) = false) := Lib.hid (decide_eq_false hsm)
  clear hs hsm
  go_enter Tryz.func6, Tryz.ntmps6
  go_upto_region 1 with fail
  rw [← hW0]; clear hW0
  go_upto_region 2 with (go_at_call 9; refine (HA.out _).mono ?_; rintro e w1 ⟨A, c, rfl, hr, hA, hX, hb⟩; have NA : Hid (∀ b off, A = some ⟨b, off, none⟩ → w.heap.size ≠ b) := Lib.hid (fun b off h => by have := hX b off h; have := bk_lt Z0.out; omega); have R1 := Lib.hid hr; have N1 := Lib.hid hA; have Z1 := Lib.hid ((hb.block _ (bk_lt Z0.out)).trans Z0.out); have B1 := Lib.hid (B0.out.trans (hb.mono B0.out.size)); have LZ := Lib.hid (bk_lt Z1.out); clear hr hA hX hb HA)
  have G2 := heap_alloc_new w1 (.cells (rcR A c r n 0) 38)
  have hb : Below w1.heap.size w1 (w1.alloc (.cells (rcR A c r n 0) 38)) := (Below.refl _ _).alloc (Nat.le_refl _) _
  generalize World.alloc w1 _ = W2 at *
  have GB : Hid (B13 W2 w1.heap.size (rcR A c r n 0)) := Lib.hid G2
  have R2 := Lib.hid ((R1.out.below hb).mono hb.size)
  have Z2 := Lib.hid ((hb.block _ (bk_lt Z1.out)).trans Z1.out)
  have B2 := Lib.hid (B1.out.trans (hb.mono B1.out.size))
  clear G2 hb R1 Z1 B1 Z0 B0
  obtain ⟨q, hq⟩ : ∃ q, q = w1.heap.size := ⟨_, rfl⟩
  rw [← hq] at GB LZ
  rw [← hq]
  clear hq w1
  have ne1 : w.heap.size ≠ q := Nat.ne_of_lt LZ.out
  have ne2 : q ≠ w.heap.size := Ne.symm ne1
  obtain ⟨c0, c1, c2, c3, c4, c5, c6, c7, c8, c9, c10, c11, c12⟩ := GB.out.all
  have z0 := bk_cell Z2.out 0; have z1 := bk_cell Z2.out 1; have z2 := bk_cell Z2.out 2
  have y0 := bk_free Z2.out 0; have y1 := bk_free Z2.out 1; have y2 := bk_free Z2.out 2
  go_upto_region 7 with (go_at_call 14; refine (rcheck10_any A c r.L r.u r.e _ R2.out HBD.out.1).mono ?_; rw [HK.out]; rintro e w3 ⟨rfl, hb⟩; have Z2 := Lib.hid ((hb.block _ (bk_lt Z2.out)).trans Z2.out); have GB := Lib.hid (GB.out.keep hb); have R2 := Lib.hid ((R2.out.below hb).mono hb.size); have B2 := Lib.hid (B2.out.trans (hb.mono B2.out.size)); clear hb c0 c1 c2 c3 c4 c5 c6 c7 c8 c9 c10 c11 c12 z0 z1 z2 y0 y1 y2)
  obtain ⟨c0, c1, c2, c3, c4, c5, c6, c7, c8, c9, c10, c11, c12⟩ := GB.out.all
  have z0 := bk_cell Z2.out 0; have z1 := bk_cell Z2.out 1; have z2 := bk_cell Z2.out 2
  have y0 := bk_free Z2.out 0; have y1 := bk_free Z2.out 1; have y2 := bk_free Z2.out 2
  obtain ⟨W5, hW5⟩ : ∃ W5, W5 = w3 := ⟨_, rfl⟩
  rw [← hW5] at Z2 GB R2 B2
  clear c0 c1 c2 c3 c4 c5 c6 c7 c8 c9 c10 c11 c12
  go_upto_region 9 with fail
  rw [← hW5]
  clear hW5
  have KS : Hid (∀ W, Below W5.heap.size W5 W → W.cell? ⟨q, 0, none⟩ = some (.slice A r.L.length c) ∧ W.cell? ⟨q, 1, none⟩ = some (.int .i64 r.u) ∧ W.cell? ⟨q, 2, none⟩ = some (.int .i64 r.e) ∧ W.cell? ⟨q, 5, none⟩ = some (.int .i64 r.s) ∧ W.cell? ⟨q, 6, none⟩ = some (.int .u32 r.x0) ∧ W.cell? ⟨q, 7, none⟩ = some (.int .u32 r.x1) ∧ W.cell? ⟨q, 8, none⟩ = some (.int .u32 r.x2) ∧ W.cell? ⟨q, 9, none⟩ = some (.int .u32 r.x3) ∧ W.cell? ⟨q, 10, none⟩ = some (.int .u32 r.x4) ∧ Below W5.heap.size W5 W) := Lib.hid (fun W hb => by
    obtain ⟨k0, k1, k2, k3, k4, k5, k6, k7, k8, k9, k10, k11, k12⟩ := (GB.out.keep hb).all
    exact ⟨k0, k1, k2, k5, k6, k7, k8, k9, k10, hb⟩)
  have HD := Lib.hid (fun W (hb : Below W5.heap.size W5 W) => rdigest11_any A c r.L r.u r.e W ((R2.out.below hb).mono hb.size) HK.out)
  obtain ⟨T, hT⟩ : ∃ T, T = dig (dgT r.L r.u r.e) := ⟨_, rfl⟩
  rw [← hT] at HD HSM
  clear hT
  have e5 := fun W => eq5u (u T.a) (u T.b) (u T.c) (u T.d) (u T.e) r.x0 r.x1 r.x2 r.x3 r.x4 W
  have h5 := five_not r T
  rw [HSM.out] at h5
  unfold stv at HD
  generalize u T.a = ta at *
  generalize u T.b = tb at *
  generalize u T.c = tc at *
  generalize u T.d = td at *
  generalize u T.e = te at *
  clear z0 z1 z2 y0 y1 y2
  go_region_held3 (fun W => W.cell? ⟨q, 0, none⟩ = some (.slice A r.L.length c) ∧ W.cell? ⟨q, 1, none⟩ = some (.int .i64 r.u) ∧ W.cell? ⟨q, 2, none⟩ = some (.int .i64 r.e) ∧ W.cell? ⟨q, 5, none⟩ = some (.int .i64 r.s) ∧ W.cell? ⟨q, 6, none⟩ = some (.int .u32 r.x0) ∧ W.cell? ⟨q, 7, none⟩ = some (.int .u32 r.x1) ∧ W.cell? ⟨q, 8, none⟩ = some (.int .u32 r.x2) ∧ W.cell? ⟨q, 9, none⟩ = some (.int .u32 r.x3) ∧ W.cell? ⟨q, 10, none⟩ = some (.int .u32 r.x4) ∧ Below W5.heap.size W5 W)
    (first | exact KS.out _ (Below.refl _ _).drew | exact KS.out _ (by assumption))
    (first
      | (go_at_call 15; go_split_ands; refine (HD.out _ (by assumption)).mono ?_; rintro e w6 ⟨rfl, hb⟩; have hB6 : Below W5.heap.size W5 w6 := Below.trans (by assumption) (hb.mono (Below.size (w := W5) (B := W5.heap.size) (by assumption))); clear hb))
  all_goals
    have Z6 := Lib.hid ((hB6.block _ (bk_lt Z2.out)).trans Z2.out)
    have G6 := Lib.hid (GB.out.keep hB6)
    have R6 := Lib.hid ((R2.out.below hB6).mono hB6.size)
    have B6 := Lib.hid (B2.out.trans (hB6.mono B2.out.size))
    obtain ⟨c0, c1, c2, c3, c4, c5, c6, c7, c8, c9, c10, c11, c12⟩ := G6.out.all
    have z0 := bk_cell Z6.out 0; have z1 := bk_cell Z6.out 1; have z2 := bk_cell Z6.out 2
    have y0 := bk_free Z6.out 0; have y1 := bk_free Z6.out 1; have y2 := bk_free Z6.out 2
    go_wp2_with fail
    have rr := bk_set (bk_set (bk_set Z6.out 0 (.slice none 0 0)) 1 (.int .i64 0)) 2 (.int .i64 0)
    have s0 := bk_cell rr 0; have s1 := bk_cell rr 1; have s2 := bk_cell rr 2
    have BV := (((B6.out.setCell (p := ⟨w.heap.size, 0, none⟩) (Nat.le_refl _) (.slice none 0 0)).setCell (p := ⟨w.heap.size, 1, none⟩) (Nat.le_refl _) (.int .i64 0)).setCell (p := ⟨w.heap.size, 2, none⟩) (Nat.le_refl _) (.int .i64 0))
    refine bodyPost_ret (v := .tuple #[.agg #[.slice none 0 0, .int .i64 0, .int .i64 0], .int .i64 7]) (by simp [results, Tryz.results6, go_sem, s0, s1, s2]) rfl ?_
    first
      | exact ⟨rfl, BV⟩
      | exact ⟨rfl, BV.drew⟩

set_option maxRecDepth 100000 in
set_option maxHeartbeats 4000000 in
theorem rparse_okay (t : ByteArray) (w : World) (n : Int) (hn : FA t.data.toList n) (hE : aE11 t.data.toList = 0) (hm : (aR11 t.data.toList).m ≠ 0) (hh : (aR11 t.data.toList).h ≠ 0) (hk : lkE (aR11 t.data.toList).L (aR11 t.data.toList).u (aR11 t.data.toList).e = 0) (hs : 0 < (aR11 t.data.toList).s) (hsm : sm11 (aR11 t.data.toList) (dig (dgT (aR11 t.data.toList).L (aR11 t.data.toList).u (aR11 t.data.toList).e))) :
    Calls Tryz.prog 6 #[.string t] w fun x w' => ∃ A c, x = .returned (.tuple #[.agg #[.slice A (aR11 t.data.toList).L.length c, .int .i64 (aR11 t.data.toList).u, .int .i64 (aR11 t.data.toList).e], .int .i64 0]) ∧ Rp w'.heap.size w' A (aR11 t.data.toList).L ∧ Below w.heap.size w w' := by
  have HA := Lib.hid (fun w => all11_n t w n hn)
  have HBD := Lib.hid (aR_bd t.data.toList)
  generalize aR11 t.data.toList = r at *
  generalize aE11 t.data.toList = E at *
  obtain ⟨W0, hW0⟩ : ∃ W0, W0 = w.alloc (.cells #[.slice none 0 0, .int .i64 0, .int .i64 0] 30) := ⟨_, rfl⟩
  have Z0 : Hid (W0.heap[w.heap.size]? = some (.cells #[.slice none 0 0, .int .i64 0, .int .i64 0] 30 (0, 0))) := Lib.hid (by rw [hW0]; exact heap_alloc_new w _)
  have B0 : Hid (Below w.heap.size w W0) := Lib.hid (by rw [hW0]; exact (Below.refl _ _).alloc (Nat.le_refl _) _)
  subst hE
  have hmb : (r.m == 0) = false := beq_eq_false_iff_ne.mpr hm
  have hhb : (r.h == 0) = false := beq_eq_false_iff_ne.mpr hh
  clear hm hh
  have HK := Lib.hid hk
  clear hk
  have hsb : decide (0 < r.s) = true := decide_eq_true hs
  have HSM : Hid (decide (sm11 r (dig (dgT r.L r.u r.e))) = true) := Lib.hid (decide_eq_true hsm)
  clear hs hsm
  go_enter Tryz.func6, Tryz.ntmps6
  go_upto_region 1 with fail
  rw [← hW0]; clear hW0
  go_upto_region 2 with (go_at_call 9; refine (HA.out _).mono ?_; rintro e w1 ⟨A, c, rfl, hr, hA, hX, hb⟩; have NA : Hid (∀ b off, A = some ⟨b, off, none⟩ → w.heap.size ≠ b) := Lib.hid (fun b off h => by have := hX b off h; have := bk_lt Z0.out; omega); have R1 := Lib.hid hr; have N1 := Lib.hid hA; have Z1 := Lib.hid ((hb.block _ (bk_lt Z0.out)).trans Z0.out); have B1 := Lib.hid (B0.out.trans (hb.mono B0.out.size)); have LZ := Lib.hid (bk_lt Z1.out); clear hr hA hX hb HA)
  have G2 := heap_alloc_new w1 (.cells (rcR A c r n 0) 38)
  have hb : Below w1.heap.size w1 (w1.alloc (.cells (rcR A c r n 0) 38)) := (Below.refl _ _).alloc (Nat.le_refl _) _
  generalize World.alloc w1 _ = W2 at *
  have GB : Hid (B13 W2 w1.heap.size (rcR A c r n 0)) := Lib.hid G2
  have R2 := Lib.hid ((R1.out.below hb).mono hb.size)
  have Z2 := Lib.hid ((hb.block _ (bk_lt Z1.out)).trans Z1.out)
  have B2 := Lib.hid (B1.out.trans (hb.mono B1.out.size))
  clear G2 hb R1 Z1 B1 Z0 B0
  obtain ⟨q, hq⟩ : ∃ q, q = w1.heap.size := ⟨_, rfl⟩
  rw [← hq] at GB LZ
  rw [← hq]
  clear hq w1
  have ne1 : w.heap.size ≠ q := Nat.ne_of_lt LZ.out
  have ne2 : q ≠ w.heap.size := Ne.symm ne1
  obtain ⟨c0, c1, c2, c3, c4, c5, c6, c7, c8, c9, c10, c11, c12⟩ := GB.out.all
  have z0 := bk_cell Z2.out 0; have z1 := bk_cell Z2.out 1; have z2 := bk_cell Z2.out 2
  have y0 := bk_free Z2.out 0; have y1 := bk_free Z2.out 1; have y2 := bk_free Z2.out 2
  go_upto_region 7 with (go_at_call 14; refine (rcheck10_any A c r.L r.u r.e _ R2.out HBD.out.1).mono ?_; rw [HK.out]; rintro e w3 ⟨rfl, hb⟩; have Z2 := Lib.hid ((hb.block _ (bk_lt Z2.out)).trans Z2.out); have GB := Lib.hid (GB.out.keep hb); have R2 := Lib.hid ((R2.out.below hb).mono hb.size); have B2 := Lib.hid (B2.out.trans (hb.mono B2.out.size)); clear hb c0 c1 c2 c3 c4 c5 c6 c7 c8 c9 c10 c11 c12 z0 z1 z2 y0 y1 y2)
  obtain ⟨c0, c1, c2, c3, c4, c5, c6, c7, c8, c9, c10, c11, c12⟩ := GB.out.all
  have z0 := bk_cell Z2.out 0; have z1 := bk_cell Z2.out 1; have z2 := bk_cell Z2.out 2
  have y0 := bk_free Z2.out 0; have y1 := bk_free Z2.out 1; have y2 := bk_free Z2.out 2
  obtain ⟨W5, hW5⟩ : ∃ W5, W5 = w3 := ⟨_, rfl⟩
  rw [← hW5] at Z2 GB R2 B2
  clear c0 c1 c2 c3 c4 c5 c6 c7 c8 c9 c10 c11 c12
  go_upto_region 9 with fail
  rw [← hW5]
  clear hW5
  have KS : Hid (∀ W, Below W5.heap.size W5 W → W.cell? ⟨q, 0, none⟩ = some (.slice A r.L.length c) ∧ W.cell? ⟨q, 1, none⟩ = some (.int .i64 r.u) ∧ W.cell? ⟨q, 2, none⟩ = some (.int .i64 r.e) ∧ W.cell? ⟨q, 5, none⟩ = some (.int .i64 r.s) ∧ W.cell? ⟨q, 6, none⟩ = some (.int .u32 r.x0) ∧ W.cell? ⟨q, 7, none⟩ = some (.int .u32 r.x1) ∧ W.cell? ⟨q, 8, none⟩ = some (.int .u32 r.x2) ∧ W.cell? ⟨q, 9, none⟩ = some (.int .u32 r.x3) ∧ W.cell? ⟨q, 10, none⟩ = some (.int .u32 r.x4) ∧ Below W5.heap.size W5 W) := Lib.hid (fun W hb => by
    obtain ⟨k0, k1, k2, k3, k4, k5, k6, k7, k8, k9, k10, k11, k12⟩ := (GB.out.keep hb).all
    exact ⟨k0, k1, k2, k5, k6, k7, k8, k9, k10, hb⟩)
  have HD := Lib.hid (fun W (hb : Below W5.heap.size W5 W) => rdigest11_any A c r.L r.u r.e W ((R2.out.below hb).mono hb.size) HK.out)
  obtain ⟨T, hT⟩ : ∃ T, T = dig (dgT r.L r.u r.e) := ⟨_, rfl⟩
  rw [← hT] at HD HSM
  clear hT
  have e5 := fun W => eq5u (u T.a) (u T.b) (u T.c) (u T.d) (u T.e) r.x0 r.x1 r.x2 r.x3 r.x4 W
  have h5 := five_not r T
  rw [HSM.out] at h5
  unfold stv at HD
  generalize u T.a = ta at *
  generalize u T.b = tb at *
  generalize u T.c = tc at *
  generalize u T.d = td at *
  generalize u T.e = te at *
  clear z0 z1 z2 y0 y1 y2
  go_region_held3 (fun W => W.cell? ⟨q, 0, none⟩ = some (.slice A r.L.length c) ∧ W.cell? ⟨q, 1, none⟩ = some (.int .i64 r.u) ∧ W.cell? ⟨q, 2, none⟩ = some (.int .i64 r.e) ∧ W.cell? ⟨q, 5, none⟩ = some (.int .i64 r.s) ∧ W.cell? ⟨q, 6, none⟩ = some (.int .u32 r.x0) ∧ W.cell? ⟨q, 7, none⟩ = some (.int .u32 r.x1) ∧ W.cell? ⟨q, 8, none⟩ = some (.int .u32 r.x2) ∧ W.cell? ⟨q, 9, none⟩ = some (.int .u32 r.x3) ∧ W.cell? ⟨q, 10, none⟩ = some (.int .u32 r.x4) ∧ Below W5.heap.size W5 W)
    (first | exact KS.out _ (Below.refl _ _).drew | exact KS.out _ (by assumption))
    (first
      | (go_at_call 15; go_split_ands; refine (HD.out _ (by assumption)).mono ?_; rintro e w6 ⟨rfl, hb⟩; have hB6 : Below W5.heap.size W5 w6 := Below.trans (by assumption) (hb.mono (Below.size (w := W5) (B := W5.heap.size) (by assumption))); clear hb))
  all_goals
    have Z6 := Lib.hid ((hB6.block _ (bk_lt Z2.out)).trans Z2.out)
    have G6 := Lib.hid (GB.out.keep hB6)
    have R6 := Lib.hid ((R2.out.below hB6).mono hB6.size)
    have B6 := Lib.hid (B2.out.trans (hB6.mono B2.out.size))
    obtain ⟨c0, c1, c2, c3, c4, c5, c6, c7, c8, c9, c10, c11, c12⟩ := G6.out.all
    have z0 := bk_cell Z6.out 0; have z1 := bk_cell Z6.out 1; have z2 := bk_cell Z6.out 2
    have y0 := bk_free Z6.out 0; have y1 := bk_free Z6.out 1; have y2 := bk_free Z6.out 2
    go_wp2_with fail
    have rr := bk_set (bk_set (bk_set Z6.out 0 (.slice A r.L.length c)) 1 (.int .i64 r.u)) 2 (.int .i64 r.e)
    have s0 := bk_cell rr 0; have s1 := bk_cell rr 1; have s2 := bk_cell rr 2
    have BV := (((B6.out.setCell (p := ⟨w.heap.size, 0, none⟩) (Nat.le_refl _) (.slice A r.L.length c)).setCell (p := ⟨w.heap.size, 1, none⟩) (Nat.le_refl _) (.int .i64 r.u)).setCell (p := ⟨w.heap.size, 2, none⟩) (Nat.le_refl _) (.int .i64 r.e))
    refine bodyPost_ret (v := .tuple #[.agg #[.slice A r.L.length c, .int .i64 r.u, .int .i64 r.e], .int .i64 0]) (by simp [results, Tryz.results6, go_sem, s0, s1, s2]) rfl ⟨A, c, rfl, ?_, BV⟩
    exact ((((R6.out.set w.heap.size 0 _ NA.out).set w.heap.size 1 _ NA.out).set w.heap.size 2 _ NA.out)).low


theorem rparse_no (t : ByteArray) (w : World) (n : Int) (hn : FA t.data.toList n) (hz : pZ11 t.data.toList ≠ 0) :
    Calls Tryz.prog 6 #[.string t] w fun x w' => x = .returned (.tuple #[.agg #[.slice none 0 0, .int .i64 0, .int .i64 0], .int .i64 (pZ11 t.data.toList)]) ∧ Below w.heap.size w w' := by
  by_cases hE : aE11 t.data.toList = 0
  · have e := (pz_yes hE).1
    rw [e] at hz ⊢
    unfold paE11 at hz ⊢
    by_cases hmh : (aR11 t.data.toList).m = 0 ∨ (aR11 t.data.toList).h = 0
    · rw [if_pos hmh]
      by_cases hm : (aR11 t.data.toList).m = 0
      · exact rparse_made t w n hn hE hm
      · exact rparse_hold t w n hn hE hm (hmh.resolve_left hm)
    · have hm : (aR11 t.data.toList).m ≠ 0 := fun h => hmh (.inl h)
      have hh : (aR11 t.data.toList).h ≠ 0 := fun h => hmh (.inr h)
      rw [if_neg hmh] at hz ⊢
      by_cases hk : lkE (aR11 t.data.toList).L (aR11 t.data.toList).u (aR11 t.data.toList).e = 0
      · rw [if_pos hk] at hz ⊢
        by_cases hs : 0 < (aR11 t.data.toList).s ∧ ¬ sm11 (aR11 t.data.toList) (dig (dgT (aR11 t.data.toList).L (aR11 t.data.toList).u (aR11 t.data.toList).e))
        · rw [if_pos hs]
          exact rparse_sum t w n hn hE hm hh hk hs.1 hs.2
        · rw [if_neg hs] at hz
          exact absurd rfl hz
      · rw [if_neg hk]
        exact rparse_check t w n hn hE hm hh hk
  · rw [pz_no hE]
    exact rparse_num t w n hn hE
theorem rparse_yes (t : ByteArray) (w : World) (n : Int) (hn : FA t.data.toList n) (hz : pZ11 t.data.toList = 0) :
    Calls Tryz.prog 6 #[.string t] w fun x w' => ∃ A c, x = .returned (.tuple #[.agg #[.slice A (rg11 t.data.toList).L.length c, .int .i64 (rg11 t.data.toList).u, .int .i64 (rg11 t.data.toList).e], .int .i64 0]) ∧ Rp w'.heap.size w' A (rg11 t.data.toList).L ∧ Below w.heap.size w w' := by
  have hE : aE11 t.data.toList = 0 := Decidable.byContradiction fun h => h (pz_no h ▸ hz)
  obtain ⟨e1, e2⟩ := pz_yes hE
  rw [e1] at hz
  obtain ⟨hm, hh, hk, hsm⟩ := paE11_zero hz
  rw [← e2]
  by_cases hs : 0 < (aR11 t.data.toList).s
  · exact rparse_okay t w n hn hE hm hh hk hs (hsm hs)
  · exact rparse_nosum t w n hn hE hm hh hk (by have := (aR_bd t.data.toList).2.2.2; omega)

end Go.Proofs.YtdonicaiimeleaaGreatDoor
