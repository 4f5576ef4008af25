/- Merged: ShaE, ShaF. -/
import Derived.Test.YtdonicaiimeleaaGreatDoorGListParses34
import Derived.Deep.DeepCutAuto
import Derived.Deep.CutRange
import Derived.Deep.CutBlock
import Derived.Deep.LoopGhost
import Derived.LoopTactic
namespace Go.Proofs.YtdonicaiimeleaaGreatDoor
open Go.RowKit Go.WideShapes Go.ChangeShapes
set_option linter.unusedVariables false

theorem wds_sch (l : List UInt8) : wds l 16 = sch l 16 := by
  refine List.ext_getElem? fun i => ?_
  by_cases h : i < 16
  · rw [sch_at l h]
    unfold snx wds
    rw [if_pos h]
    simp [h]
  · rw [List.getElem?_eq_none (by rw [wds_len]; omega), List.getElem?_eq_none (by rw [sch_len]; omega)]
theorem sch_set (l : List UInt8) {t : Nat} (h : t < 80) : (sch l t ++ List.replicate (80 - t) 0).set t (snx l t (sch l t)) = sch l (t + 1) ++ List.replicate (80 - (t + 1)) 0 := by
  rw [List.set_append_right _ _ (by rw [sch_len]; exact Nat.le_refl _), sch_len, Nat.sub_self, show 80 - t = (80 - (t + 1)) + 1 by omega, List.replicate_succ, List.set_cons_zero]
  show _ = (sch l t ++ [snx l t (sch l t)]) ++ _
  rw [List.append_assoc]; rfl
/-- All words of a block. -/
def schv (l : List UInt8) : Array Value := (cz .u32 ((sch l 80).map u)).toArray
/-- Eighty zeros. -/
def zv80 : Array Value := (cz .u32 ((List.replicate 80 (0 : BitVec 32)).map u)).toArray
theorem zero80 : ∀ w : World, (zeroValue 209).run Tryz.prog w = .ok (.agg zv80) w := fun w => by kernel_rfl
theorem wsize80 : (Tryz.prog.info? 209).map (·.size) = some 80 := by kernel_rfl
theorem wund80 : Tryz.prog.underlying 209 = some (.array 80 35) := by kernel_rfl
theorem schv_size (l : List UInt8) : (schv l).size = 80 := by unfold schv; rw [List.size_toArray, cz_len, List.length_map, sch_len]
theorem schv_all (l : List UInt8) : (schv l).all (·.oneCell') = true := by
  unfold schv
  simp only [List.all_toArray, List.all_eq_true]
  intro v hv
  unfold cz at hv
  obtain ⟨z, _, rfl⟩ := List.mem_map.mp hv
  rfl

set_option maxRecDepth 100000 in
set_option maxHeartbeats 2000000 in
theorem sext_any (l : List UInt8) (hl : l.length = 64) (w : World) :
    Calls Tryz.prog 140 #[.agg (bc l).toArray] w fun e w' => e = .returned (.agg (schv l)) ∧ Below w.heap.size w w' := by
  obtain ⟨V, hV⟩ : ∃ V, V = schv l := ⟨_, rfl⟩
  rw [← hV]
  have HI := Lib.hid (show (Tryz.prog.info? 209).map (·.size) = some V.size by rw [hV, wsize80, schv_size])
  have HO := Lib.hid (show zv80.size = V.size by rw [hV, schv_size]; unfold zv80; rw [List.size_toArray, cz_len, List.length_map, List.length_replicate])
  have HA := Lib.hid (show V.all (·.oneCell') = true by rw [hV]; exact schv_all l)
  have HV := Lib.hid hV
  clear hV
  obtain ⟨W0, hW0⟩ : ∃ W0, W0 = ((w.alloc (.cells (bc l).toArray 178)).alloc (.cells zv80 209)).alloc (.cells zv80 209) := ⟨_, rfl⟩
  have b0 : Below w.heap.size w W0 := by rw [hW0]; exact (((Below.refl _ w).alloc (Nat.le_refl _) _).alloc (by simp) _).alloc (by simp; omega) _
  have z2 : Wb 209 W0 (w.heap.size + 1 + 1) (List.replicate 80 0) := by
    rw [hW0]
    have := heap_alloc_new ((w.alloc (.cells (bc l).toArray 178)).alloc (.cells zv80 209)) (.cells zv80 209)
    rw [World.size_alloc, World.size_alloc] at this
    exact this
  have z1 : Wb 209 W0 (w.heap.size + 1) (List.replicate 80 0) := by
    rw [hW0]
    have := heap_alloc_new (w.alloc (.cells (bc l).toArray 178)) (.cells zv80 209)
    rw [World.size_alloc] at this
    have k : Wb 209 ((w.alloc (.cells (bc l).toArray 178)).alloc (.cells zv80 209)) (w.heap.size + 1) (List.replicate 80 0) := this
    exact k.below ((Below.refl _ _).alloc (Nat.le_refl _) _) k.lt
  have z0 : Bt 178 W0 w.heap.size l := by
    rw [hW0]
    have k : Bt 178 (w.alloc (.cells (bc l).toArray 178)) w.heap.size l := heap_alloc_new w _
    exact k.below ((((Below.refl _ _).alloc (Nat.le_refl _) _).alloc (by simp) _)) (by simp)
  have HS := Lib.hid (show w.heap.size + 1 + 1 < W0.heap.size from z2.lt)
  have Z1 := Lib.hid z1
  have B0 := Lib.hid b0
  have HR := Lib.hid (fun W (hb : Below W0.heap.size W0 W) => read_any 209 (w.heap.size + 1 + 1) 16 80 (List.replicate 80 0) (some ⟨w.heap.size, 0, none⟩) l 64 W (z2.below hb z2.lt) (by decide) (z0.reads.below hb) (fun h => by cases h) (by omega) (by omega) (by omega))
  rw [hl, wds_sch, show List.drop 16 (List.replicate 80 (0 : BitVec 32)) = List.replicate (80 - 16) 0 by rfl] at HR
  clear z0 z1 z2 b0
  have hz := zero80
  go_enter Tryz.func140, Tryz.ntmps140
  go_upto_region 2 with fail
  rw [← hW0]; clear hW0 hz
  refine wp_region_still_tail 2 (by kernel_rfl) (by kernel_rfl) ?_
  simp only [List.take_succ_cons, List.take_zero, List.drop_succ_cons, List.drop_zero]
  show wpStill _ _ W0.drew (fun a' => wpList _ _ _ _ a' W0.drew) _ _
  still_step
  still_step
  refine wpStill_nil ?_
  go_wp2_with (go_at_call 175; refine (HR.out _ (Below.drew (Below.refl _ _))).mono ?_; rintro e w1 ⟨rfl, hk, hb⟩; have K1 := Lib.hid hk; have B1 := Lib.hid (Below.trans (Below.mono B0.out (Nat.le_refl _)) (Below.trans (Below.drew (Below.refl w.heap.size W0)) (Below.mono hb (by omega)))); have Z2 := Lib.hid ((Z1.out.below (Below.drew (Below.refl _ _)) (Nat.lt_trans (Nat.lt_succ_self _) HS.out)).below hb (Nat.lt_succ_self _)); clear hk hb)
  clear HR Z1 B0
  go_loopw [4] (fun i wr => ∃ t : Nat, i = .int .i64 t ∧ 16 ≤ t ∧ t ≤ 80 ∧ Hid (Wb 209 wr (w.heap.size + 1 + 1) (sch l t ++ List.replicate (80 - t) 0)) ∧ Hid (Wb 209 wr (w.heap.size + 1) (List.replicate 80 0)) ∧ Hid (Below w.heap.size w wr)) (fun i _ => 80 - (intOf i).toNat)
  case atStart => exact ⟨16, rfl, by omega, by omega, K1, Z2, B1⟩
  case round =>
    clear K1 Z2 B1
    obtain ⟨t, rfl, t0, ht, K, Z, B⟩ := hrel
    by_cases hlt : t < 80
    · have at_ : ∀ i, i < t → wr.cell? ⟨w.heap.size + 1 + 1, i, none⟩ = some (.int .u32 (u (snx l i (sch l i)))) := fun i hi => K.out.cell (by rw [List.getElem?_append_left (by rw [sch_len]; exact hi)]; exact sch_at l hi)
      have k3 := at_ (t - 3) (by omega)
      have k8 := at_ (t - 8) (by omega)
      have k14 := at_ (t - 14) (by omega)
      have k16 := at_ (t - 16) (by omega)
      clear at_
      have kt : wr.cell? ⟨w.heap.size + 1 + 1, t, none⟩ = some (.int .u32 (u 0)) := K.out.cell (by rw [List.getElem?_append_right (by rw [sch_len]; exact Nat.le_refl _), sch_len, Nat.sub_self, List.getElem?_replicate, if_pos (by omega)])
      go_upto_region 6 with fail
      have E : Hid (snx l t (sch l t) = rot (snx l (t - 3) (sch l (t - 3)) ^^^ snx l (t - 8) (sch l (t - 8)) ^^^ snx l (t - 14) (sch l (t - 14)) ^^^ snx l (t - 16) (sch l (t - 16))) 1) := Lib.hid (by
        conv => lhs; unfold snx
        rw [if_neg (by omega), sch_get l (show t - 3 < t by omega), sch_get l (show t - 8 < t by omega), sch_get l (show t - 14 < t by omega), sch_get l (show t - 16 < t by omega)])
      generalize snx l (t - 3) (sch l (t - 3)) = x3 at *
      generalize snx l (t - 8) (sch l (t - 8)) = x8 at *
      generalize snx l (t - 14) (sch l (t - 14)) = x14 at *
      generalize snx l (t - 16) (sch l (t - 16)) = x16 at *
      have q3 : IntKind.i64.wrap ((t : Int) - 3) = ((t - 3 : Nat) : Int) := by rw [IntWalk.i64_in _ (by omega)]; omega
      have q8 : IntKind.i64.wrap ((t : Int) - 8) = ((t - 8 : Nat) : Int) := by rw [IntWalk.i64_in _ (by omega)]; omega
      have q14 : IntKind.i64.wrap ((t : Int) - 14) = ((t - 14 : Nat) : Int) := by rw [IntWalk.i64_in _ (by omega)]; omega
      have q16 : IntKind.i64.wrap ((t : Int) - 16) = ((t - 16 : Nat) : Int) := by rw [IntWalk.i64_in _ (by omega)]; omega
      obtain ⟨l3, l8, l14, l16, lt⟩ : ((t - 3 : Nat) : Int) < 80 ∧ ((t - 8 : Nat) : Int) < 80 ∧ ((t - 14 : Nat) : Int) < 80 ∧ ((t - 16 : Nat) : Int) < 80 ∧ (t : Int) < 80 := by omega
      generalize t - 3 = i3 at *
      generalize t - 8 = i8 at *
      generalize t - 14 = i14 at *
      generalize t - 16 = i16 at *
      have rx := fun x y => u_xor x y
      refine wp_region_still_tail 22 (by kernel_rfl) (by kernel_rfl) ?_
      simp only [List.take_succ_cons, List.take_zero, List.drop_succ_cons, List.drop_zero]
      show wpStill _ _ wr.drew (fun a' => wpList _ _ _ _ a' wr.drew) _ _
      obtain ⟨w3, hw3⟩ : ∃ w3, w3 = wr.drew := ⟨_, rfl⟩
      have B3 : Hid (Below w.heap.size w w3) := Lib.hid (by rw [hw3]; exact B.out.drew)
      have K3 : Hid (Wb 209 w3 (w.heap.size + 1 + 1) (sch l t ++ List.replicate (80 - t) 0)) := Lib.hid (by rw [hw3]; exact K.out)
      have Z3 : Hid (Wb 209 w3 (w.heap.size + 1) (List.replicate 80 0)) := Lib.hid (by rw [hw3]; exact Z.out)
      have e3 : w3.cell? ⟨w.heap.size + 1 + 1, i3, none⟩ = some (.int .u32 (u x3)) := by rw [hw3]; exact k3
      have e8 : w3.cell? ⟨w.heap.size + 1 + 1, i8, none⟩ = some (.int .u32 (u x8)) := by rw [hw3]; exact k8
      have e14 : w3.cell? ⟨w.heap.size + 1 + 1, i14, none⟩ = some (.int .u32 (u x14)) := by rw [hw3]; exact k14
      have e16 : w3.cell? ⟨w.heap.size + 1 + 1, i16, none⟩ = some (.int .u32 (u x16)) := by rw [hw3]; exact k16
      have et : w3.cell? ⟨w.heap.size + 1 + 1, t, none⟩ = some (.int .u32 (u 0)) := by rw [hw3]; exact kt
      have ft : w3.frozen? ⟨w.heap.size + 1 + 1, t, none⟩ = false := K3.out.free t
      rw [← hw3]
      clear hw3 k3 k8 k14 k16 kt K Z B
      repeat still_step
      still_call ((rotl1_any _ _).mono fun _ _ h => ⟨h.1, h.2.symm⟩)
      repeat still_step
      refine wpStill_nil ?_
      obtain ⟨w4, hw4⟩ : ∃ w4, w4 = w3.setCell ⟨w.heap.size + 1 + 1, t, none⟩ (.int .u32 (u (rot (x3 ^^^ x8 ^^^ x14 ^^^ x16) 1))) := ⟨_, rfl⟩
      have k4 := K3.out.set t (rot (x3 ^^^ x8 ^^^ x14 ^^^ x16) 1)
      rw [← hw4, ← E.out, sch_set l hlt] at k4
      have z4 : Wb 209 w4 (w.heap.size + 1) (List.replicate 80 0) := by
        rw [hw4]
        exact (heap_setCell_other w3 _ _ _ (by show w.heap.size + 1 ≠ w.heap.size + 1 + 1; omega)).trans Z3.out
      have b4 : Below w.heap.size w w4 := by rw [hw4]; exact B3.out.setCell (by show w.heap.size ≤ w.heap.size + 1 + 1; omega) _
      have K4 := Lib.hid k4; have Z4 := Lib.hid z4; have B4 := Lib.hid b4; have HW4 := Lib.hid hw4
      clear k4 z4 b4 hw4 K3 Z3 B3 E e3 e8 e14 e16 q3 q8 q14 q16 l3 l8 l14 l16 rx
      go_wp2_with fail
      rw [← HW4.out]
      refine ⟨?_, by simp [intOf]; omega⟩
      first
        | exact ⟨t + 1, by go_num, by omega, by omega, K4, Z4, B4⟩
        | ((repeat apply Exists.intro); exact (0 : Nat))
    · obtain rfl : t = 80 := by omega
      clear hlt t0 ht
      have k : wr.heap[w.heap.size + 1 + 1]? = some (.cells V 209 (0, 0)) := by rw [HV.out]; have := K.out; rw [Nat.sub_self, List.replicate_zero, List.append_nil] at this; exact this
      have z : wr.heap[w.heap.size + 1]? = some (.cells zv80 209 (0, 0)) := by unfold zv80; exact Z.out
      have KK := Lib.hid k; have ZZ := Lib.hid z
      clear k K z Z
      go_wp2_with (first
        | (refine wpList_load_row rfl 209 (.tmp 3) rfl (w.heap.size + 1 + 1) rfl 209 V (0, 0) _ KK.out wund80 rfl HI.out ?_)
        | (refine wpList_store_row rfl 209 (.tmp 2) (.tmp 34) rfl (w.heap.size + 1) V rfl rfl 209 zv80 ZZ.out HI.out HO.out HA.out ?_))
      refine bodyPost_ret (results_cell_row rfl _ _ (w.heap.size + 1) 209 V (0, 0) _ rfl (setRow_heap wr (w.heap.size + 1) _ _ _ _ ZZ.out) wund80 rfl HI.out) rfl ⟨rfl, ?_⟩
      exact below_setRow B.out (Nat.le_succ _) _

end Go.Proofs.YtdonicaiimeleaaGreatDoor

namespace Go.Proofs.YtdonicaiimeleaaGreatDoor
open Go.RowKit Go.WideShapes Go.ChangeShapes
set_option linter.unusedVariables false

/-- An element of an array of eighty words. -/
theorem index80 {V : Array Value} {n : Nat} {v : Value} (h : V[n]? = some v) (hn : n < 80) (w : World) : (Instr.index 209 (.agg V) (.int .i64 (n : Int))).run Tryz.prog w = .ok v w := by
  have h2 : (0 : Int) ≤ (n : Int) ∧ (n : Int) < (80 : Nat) := by omega
  simp [Instr.index, run_underlying wund80, asIntOf, h2, Go.part, h, hn]
theorem bund64 : Tryz.prog.underlying 178 = some (.array 64 5) := by kernel_rfl
theorem bsize64 : (Tryz.prog.info? 178).map (·.size) = some 64 := by kernel_rfl

set_option maxRecDepth 100000 in
set_option maxHeartbeats 2000000 in
theorem step_any (s : St) (l : List UInt8) (hl : l.length = 64) (w : World) :
    Calls Tryz.prog 109 #[.agg (stv s), .agg (bc l).toArray] w fun e w' => e = .returned (.agg (stv (stp s l))) ∧ Below w.heap.size w w' := by
  obtain ⟨V, hV⟩ : ∃ V, V = schv l := ⟨_, rfl⟩
  obtain ⟨C, hC⟩ : ∃ C, C = (bc l).toArray := ⟨_, rfl⟩
  rw [← hC]
  obtain ⟨p, hp⟩ : ∃ p, p = sch l 80 := ⟨_, rfl⟩
  have hpl : p.length = 80 := by rw [hp, sch_len]
  have hVp : ∀ i, i < 80 → V[i]? = some (.int .u32 (u (p.getD i 0))) := fun i hi => by
    have h1 : p[i]? = some (p.getD i 0) := by rw [List.getD_eq_getElem?_getD, List.getElem?_eq_getElem (by omega)]; rfl
    rw [hV]
    unfold schv
    rw [← hp]
    rw [List.getElem?_toArray]
    unfold cz
    rw [List.getElem?_map, List.getElem?_map, h1]
    rfl
  have HVP := Lib.hid hVp
  obtain ⟨R, hR⟩ : ∃ R, R = stp s l := ⟨_, rfl⟩
  rw [← hR]
  have HRR := Lib.hid (show R = plus s (rds p s 80) by rw [hR, hp]; rfl)
  have hx := fun w => sext_any l hl w
  rw [← hV, ← hC] at hx
  have HX := Lib.hid hx
  clear hx hVp hV hp hR hpl
  obtain ⟨W0, hW0⟩ : ∃ W0, W0 = ((w.alloc (.cells (stv s) 36)).alloc (.cells C 178)).alloc (.cells #[.int .u32 0, .int .u32 0, .int .u32 0, .int .u32 0, .int .u32 0] 36) := ⟨_, rfl⟩
  have b0 : Below w.heap.size w W0 := by rw [hW0]; exact (((Below.refl _ w).alloc (Nat.le_refl _) _).alloc (by simp) _).alloc (by simp; omega) _
  have p0 : Sb W0 w.heap.size s := by
    rw [hW0]
    have h1 : Sb (w.alloc (.cells (stv s) 36)) w.heap.size s := heap_alloc_new w _
    exact (h1.keep ((Below.refl _ _).alloc (Nat.le_refl _) _)).keep ((Below.refl _ _).alloc (Nat.le_refl _) _)
  have z1 : W0.heap[w.heap.size + 1]? = some (.cells C 178 (0, 0)) := by
    rw [hW0]
    have := heap_alloc_new (w.alloc (.cells (stv s) 36)) (.cells C 178)
    rw [World.size_alloc] at this
    exact (((Below.refl _ _).alloc (Nat.le_refl _) _).block _ (bk_lt this)).trans this
  have z2 : Sb W0 (w.heap.size + 1 + 1) zs5 := by
    rw [hW0]
    have := heap_alloc_new ((w.alloc (.cells (stv s) 36)).alloc (.cells C 178)) (.cells #[.int .u32 0, .int .u32 0, .int .u32 0, .int .u32 0, .int .u32 0] 36)
    rw [World.size_alloc, World.size_alloc] at this
    exact this
  have P0 := Lib.hid p0; have Z1 := Lib.hid z1; have Z2 := Lib.hid z2; have B0 := Lib.hid b0
  have HI := Lib.hid (show (Tryz.prog.info? 178).map (·.size) = some C.size by rw [hC, bsize64, List.size_toArray, bc_len, hl])
  clear p0 z1 z2 b0 hl hC
  obtain ⟨c0, c1, c2, c3, c4⟩ := P0.out.all
  go_enter Tryz.func109, Tryz.ntmps109
  go_upto_region 1 with fail
  rw [← hW0]; clear hW0
  go_quiet (fail)
  have b8 : Below W0.heap.size W0 (W0.drewN nq) := ⟨rfl, rfl, rfl, Nat.le_refl _, fun _ _ => rfl⟩
  have P8 := Lib.hid (P0.out.keep b8); have Z18 := Lib.hid ((b8.block _ (bk_lt Z1.out)).trans Z1.out); have Z28 := Lib.hid (Z2.out.keep b8)
  have B8 := Lib.hid (B0.out.trans (b8.mono B0.out.size))
  clear P0 Z1 Z2 b8 B0 c0 c1 c2 c3 c4
  generalize W0.drewN nq = w8 at *
  go_wp2_with (first
    | (refine wpList_load_row rfl 178 (.tmp 3) rfl (w.heap.size + 1) rfl 178 C (0, 0) _ Z18.out bund64 rfl HI.out ?_)
    | (go_at_call 140; refine (HX.out _).mono ?_; rintro e w9 ⟨rfl, hb⟩; have B9 := Lib.hid hb; have P9 := Lib.hid (P8.out.keep hb); have Z9 := Lib.hid (Z28.out.keep hb); have B99 := Lib.hid (B8.out.trans (hb.mono B8.out.size)); clear hb))
  clear P8 Z18 Z28 B8 B9
  go_loopw [5, 6, 7, 8, 9, 26] (fun va vb vc vd ve i wr => ∃ (t : Nat) (S : St), va = .int .u32 (u S.a) ∧ vb = .int .u32 (u S.b) ∧ vc = .int .u32 (u S.c) ∧ vd = .int .u32 (u S.d) ∧ ve = .int .u32 (u S.e) ∧ i = .int .i64 t ∧ t ≤ 80 ∧ Hid (rds p s t = S) ∧ w9 = wr) (fun _ _ _ _ _ i _ => 80 - (intOf i).toNat)
  case atStart => exact ⟨0, s, rfl, rfl, rfl, rfl, rfl, rfl, by omega, Lib.hid rfl, rfl⟩
  case round =>
    obtain ⟨t, S, rfl, rfl, rfl, rfl, rfl, rfl, ht, HS, rfl⟩ := hrel
    by_cases hlt : t < 80
    · obtain ⟨x, hxe⟩ : ∃ x, p.getD t 0 = x := ⟨_, rfl⟩
      have ix := fun w => index80 (HVP.out t hlt) hlt w
      rw [hxe] at ix
      have HXX := Lib.hid hxe
      clear hxe
      have HM := Lib.hid (mixed_any t S.b S.c S.d w9 hlt)
      obtain ⟨y, hy⟩ : ∃ y, y = rot S.a 5 + ff t S.b S.c S.d + S.e + kk t + x := ⟨_, rfl⟩
      have E := Lib.hid (show srd t x S = ⟨y, S.a, rot S.b 30, S.c, S.d⟩ by rw [hy]; rfl)
      have s1 := u_add (rot S.a 5) (ff t S.b S.c S.d)
      have s2 := u_add (rot S.a 5 + ff t S.b S.c S.d) S.e
      have s3 := u_add (rot S.a 5 + ff t S.b S.c S.d + S.e) (kk t)
      have s4 := u_add (rot S.a 5 + ff t S.b S.c S.d + S.e + kk t) x
      rw [← hy] at s4
      clear hy
      go_wp2_with (first
        | (go_at_call 141; refine HM.out.mono ?_; rintro e w' ⟨rfl, rfl⟩)
        | (go_at_call_of 142 (Value.int .u32 (u S.a)); refine (rotl5_any _ _).mono ?_; rintro e w' ⟨rfl, rfl⟩)
        | (go_at_call_of 142 (Value.int .u32 (u S.b)); refine (rotl30_any _ _).mono ?_; rintro e w' ⟨rfl, rfl⟩))
      refine ⟨⟨t + 1, ⟨y, S.a, rot S.b 30, S.c, S.d⟩, rfl, rfl, rfl, rfl, rfl, by go_num, by omega, Lib.hid (by rw [← E.out]; show srd t (p.getD t 0) (rds p s t) = _; rw [HS.out, HXX.out]), trivial⟩, by simp [intOf]; omega⟩
    · obtain rfl : t = 80 := by omega
      clear hlt ht
      have e : R = plus s S := by rw [HRR.out, HS.out]
      obtain ⟨c0, c1, c2, c3, c4⟩ := P9.out.all
      obtain ⟨d0, d1, d2, d3, d4⟩ := Z9.out.all
      obtain ⟨f0, f1, f2, f3, f4⟩ := Z9.out.frees
      have HP := Lib.hid (put5_sb Z9.out (plus s S))
      have HB := Lib.hid (put5_below B99.out (show w.heap.size ≤ w.heap.size + 1 + 1 by omega) (plus s S))
      have m1 := u_add s.a S.a
      have m2 := u_add s.b S.b
      have m3 := u_add s.c S.c
      have m4 := u_add s.d S.d
      have m5 := u_add s.e S.e
      have ER := Lib.hid e
      clear e
      go_wp2_with fail
      show bodyPost _ _ _ _ _ (put5 w9 (w.heap.size + 1 + 1) (plus s S))
      obtain ⟨r0, r1, r2, r3, r4⟩ := HP.out.all
      rw [ER.out]
      have hB := HB.out
      generalize put5 w9 (w.heap.size + 1 + 1) (plus s S) = W9 at *
      refine bodyPost_ret (v := .agg (stv (plus s S))) (by simp [results, Tryz.results109, go_sem, r0, r1, r2, r3, r4, stv]) rfl ⟨rfl, hB⟩

end Go.Proofs.YtdonicaiimeleaaGreatDoor
