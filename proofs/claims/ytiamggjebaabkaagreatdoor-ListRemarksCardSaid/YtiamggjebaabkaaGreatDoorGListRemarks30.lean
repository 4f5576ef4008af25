/- Merged: ShaF, ShaJ. -/
import Derived.Test.YtiamggjebaabkaaGreatDoorGListRemarks29
import Derived.Test.YtiamggjebaabkaaGreatDoorGListRemarks25
import Derived.Test.YtiamggjebaabkaaGreatDoorGListRemarks17
import Derived.Deep.RegionHeld3
import Derived.Test.YtiamggjebaabkaaGreatDoorGListRemarks21
namespace Go.Proofs.YtiamggjebaabkaaGreatDoor
open Go.RowKit Go.WideShapes Go.ChangeShapes
set_option linter.unusedVariables false

/-- An element of an array of eighty words. -/
theorem index80 {V : Array Value} {n : Nat} {v : Value} (h : V[n]? = some v) (hn : n < 80) (w : World) : (Instr.index 198 (.agg V) (.int .i64 (n : Int))).run Tryz.prog w = .ok v w := by
  have h2 : (0 : Int) ≤ (n : Int) ∧ (n : Int) < (80 : Nat) := by omega
  simp [Instr.index, run_underlying wund80, asIntOf, h2, Go.part, h, hn]
theorem bund64 : Tryz.prog.underlying 159 = some (.array 64 5) := by kernel_rfl
theorem bsize64 : (Tryz.prog.info? 159).map (·.size) = some 64 := by kernel_rfl

set_option maxRecDepth 100000 in
set_option maxHeartbeats 2000000 in
theorem step_any (s : St) (l : List UInt8) (hl : l.length = 64) (w : World) :
    Calls Tryz.prog 94 #[.agg (stv s), .agg (bc l).toArray] w fun e w' => e = .returned (.agg (stv (stp s l))) ∧ Below w.heap.size w w' := by
  obtain ⟨V, hV⟩ : ∃ V, V = schv l := ⟨_, rfl⟩
  obtain ⟨C, hC⟩ : ∃ C, C = (bc l).toArray := ⟨_, rfl⟩
  rw [← hC]
  obtain ⟨p, hp⟩ : ∃ p, p = sch l 80 := ⟨_, rfl⟩
  have hpl : p.length = 80 := by rw [hp, sch_len]
  have hVp : ∀ i, i < 80 → V[i]? = some (.int .u32 (u (p.getD i 0))) := fun i hi => by
    have h1 : p[i]? = some (p.getD i 0) := by rw [List.getD_eq_getElem?_getD, List.getElem?_eq_getElem (by omega)]; rfl
    rw [hV]
    unfold schv
    rw [← hp]
    rw [List.getElem?_toArray]
    unfold cz
    rw [List.getElem?_map, List.getElem?_map, h1]
    rfl
  have HVP := Lib.hid hVp
  obtain ⟨R, hR⟩ : ∃ R, R = stp s l := ⟨_, rfl⟩
  rw [← hR]
  have HRR := Lib.hid (show R = plus s (rds p s 80) by rw [hR, hp]; rfl)
  have hx := fun w => sext_any l hl w
  rw [← hV, ← hC] at hx
  have HX := Lib.hid hx
  clear hx hVp hV hp hR hpl
  obtain ⟨W0, hW0⟩ : ∃ W0, W0 = ((w.alloc (.cells (stv s) 36)).alloc (.cells C 159)).alloc (.cells #[.int .u32 0, .int .u32 0, .int .u32 0, .int .u32 0, .int .u32 0] 36) := ⟨_, rfl⟩
  have b0 : Below w.heap.size w W0 := by rw [hW0]; exact (((Below.refl _ w).alloc (Nat.le_refl _) _).alloc (by simp) _).alloc (by simp; omega) _
  have p0 : Sb W0 w.heap.size s := by
    rw [hW0]
    have h1 : Sb (w.alloc (.cells (stv s) 36)) w.heap.size s := heap_alloc_new w _
    exact (h1.keep ((Below.refl _ _).alloc (Nat.le_refl _) _)).keep ((Below.refl _ _).alloc (Nat.le_refl _) _)
  have z1 : W0.heap[w.heap.size + 1]? = some (.cells C 159 (0, 0)) := by
    rw [hW0]
    have := heap_alloc_new (w.alloc (.cells (stv s) 36)) (.cells C 159)
    rw [World.size_alloc] at this
    exact (((Below.refl _ _).alloc (Nat.le_refl _) _).block _ (bk_lt this)).trans this
  have z2 : Sb W0 (w.heap.size + 1 + 1) zs5 := by
    rw [hW0]
    have := heap_alloc_new ((w.alloc (.cells (stv s) 36)).alloc (.cells C 159)) (.cells #[.int .u32 0, .int .u32 0, .int .u32 0, .int .u32 0, .int .u32 0] 36)
    rw [World.size_alloc, World.size_alloc] at this
    exact this
  have P0 := Lib.hid p0; have Z1 := Lib.hid z1; have Z2 := Lib.hid z2; have B0 := Lib.hid b0
  have HI := Lib.hid (show (Tryz.prog.info? 159).map (·.size) = some C.size by rw [hC, bsize64, List.size_toArray, bc_len, hl])
  clear p0 z1 z2 b0 hl hC
  obtain ⟨c0, c1, c2, c3, c4⟩ := P0.out.all
  go_enter Tryz.func94, Tryz.ntmps94
  go_upto_region 1 with fail
  rw [← hW0]; clear hW0
  go_quiet (fail)
  have b8 : Below W0.heap.size W0 (W0.drewN nq) := ⟨rfl, rfl, rfl, Nat.le_refl _, fun _ _ => rfl⟩
  have P8 := Lib.hid (P0.out.keep b8); have Z18 := Lib.hid ((b8.block _ (bk_lt Z1.out)).trans Z1.out); have Z28 := Lib.hid (Z2.out.keep b8)
  have B8 := Lib.hid (B0.out.trans (b8.mono B0.out.size))
  clear P0 Z1 Z2 b8 B0 c0 c1 c2 c3 c4
  generalize W0.drewN nq = w8 at *
  go_wp2_with (first
    | (refine wpList_load_row rfl 159 (.tmp 3) rfl (w.heap.size + 1) rfl 159 C (0, 0) _ Z18.out bund64 rfl HI.out ?_)
    | (go_at_call 126; refine (HX.out _).mono ?_; rintro e w9 ⟨rfl, hb⟩; have B9 := Lib.hid hb; have P9 := Lib.hid (P8.out.keep hb); have Z9 := Lib.hid (Z28.out.keep hb); have B99 := Lib.hid (B8.out.trans (hb.mono B8.out.size)); clear hb))
  clear P8 Z18 Z28 B8 B9
  go_loopw [5, 6, 7, 8, 9, 26] (fun va vb vc vd ve i wr => ∃ (t : Nat) (S : St), va = .int .u32 (u S.a) ∧ vb = .int .u32 (u S.b) ∧ vc = .int .u32 (u S.c) ∧ vd = .int .u32 (u S.d) ∧ ve = .int .u32 (u S.e) ∧ i = .int .i64 t ∧ t ≤ 80 ∧ Hid (rds p s t = S) ∧ w9 = wr) (fun _ _ _ _ _ i _ => 80 - (intOf i).toNat)
  case atStart => exact ⟨0, s, rfl, rfl, rfl, rfl, rfl, rfl, by omega, Lib.hid rfl, rfl⟩
  case round =>
    obtain ⟨t, S, rfl, rfl, rfl, rfl, rfl, rfl, ht, HS, rfl⟩ := hrel
    by_cases hlt : t < 80
    · obtain ⟨x, hxe⟩ : ∃ x, p.getD t 0 = x := ⟨_, rfl⟩
      have ix := fun w => index80 (HVP.out t hlt) hlt w
      rw [hxe] at ix
      have HXX := Lib.hid hxe
      clear hxe
      have HM := Lib.hid (mixed_any t S.b S.c S.d w9 hlt)
      obtain ⟨y, hy⟩ : ∃ y, y = rot S.a 5 + ff t S.b S.c S.d + S.e + kk t + x := ⟨_, rfl⟩
      have E := Lib.hid (show srd t x S = ⟨y, S.a, rot S.b 30, S.c, S.d⟩ by rw [hy]; rfl)
      have s1 := u_add (rot S.a 5) (ff t S.b S.c S.d)
      have s2 := u_add (rot S.a 5 + ff t S.b S.c S.d) S.e
      have s3 := u_add (rot S.a 5 + ff t S.b S.c S.d + S.e) (kk t)
      have s4 := u_add (rot S.a 5 + ff t S.b S.c S.d + S.e + kk t) x
      rw [← hy] at s4
      clear hy
      go_wp2_with (first
        | (go_at_call 127; refine HM.out.mono ?_; rintro e w' ⟨rfl, rfl⟩)
        | (go_at_call_of 128 (Value.int .u32 (u S.a)); refine (rotl5_any _ _).mono ?_; rintro e w' ⟨rfl, rfl⟩)
        | (go_at_call_of 128 (Value.int .u32 (u S.b)); refine (rotl30_any _ _).mono ?_; rintro e w' ⟨rfl, rfl⟩))
      refine ⟨⟨t + 1, ⟨y, S.a, rot S.b 30, S.c, S.d⟩, rfl, rfl, rfl, rfl, rfl, by go_num, by omega, Lib.hid (by rw [← E.out]; show srd t (p.getD t 0) (rds p s t) = _; rw [HS.out, HXX.out]), trivial⟩, by simp [intOf]; omega⟩
    · obtain rfl : t = 80 := by omega
      clear hlt ht
      have e : R = plus s S := by rw [HRR.out, HS.out]
      obtain ⟨c0, c1, c2, c3, c4⟩ := P9.out.all
      obtain ⟨d0, d1, d2, d3, d4⟩ := Z9.out.all
      obtain ⟨f0, f1, f2, f3, f4⟩ := Z9.out.frees
      have HP := Lib.hid (put5_sb Z9.out (plus s S))
      have HB := Lib.hid (put5_below B99.out (show w.heap.size ≤ w.heap.size + 1 + 1 by omega) (plus s S))
      have m1 := u_add s.a S.a
      have m2 := u_add s.b S.b
      have m3 := u_add s.c S.c
      have m4 := u_add s.d S.d
      have m5 := u_add s.e S.e
      have ER := Lib.hid e
      clear e
      go_wp2_with fail
      show bodyPost _ _ _ _ _ (put5 w9 (w.heap.size + 1 + 1) (plus s S))
      obtain ⟨r0, r1, r2, r3, r4⟩ := HP.out.all
      rw [ER.out]
      have hB := HB.out
      generalize put5 w9 (w.heap.size + 1 + 1) (plus s S) = W9 at *
      refine bodyPost_ret (v := .agg (stv (plus s S))) (by simp [results, Tryz.results94, go_sem, r0, r1, r2, r3, r4, stv]) rfl ⟨rfl, hB⟩

end Go.Proofs.YtiamggjebaabkaaGreatDoor

namespace Go.Proofs.YtiamggjebaabkaaGreatDoor
open Go.RowKit Go.WideShapes Go.ChangeShapes
set_option linter.unusedVariables false

theorem ssize : (Tryz.prog.info? 36).map (·.size) = some 5 := by kernel_rfl
theorem stv_all (s : St) : (stv s).all (·.oneCell') = true := by simp [stv, Value.oneCell']
end Go.Proofs.YtiamggjebaabkaaGreatDoor
