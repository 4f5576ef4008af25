/- The statements of layer 8: the fixed fact; Document; labels held against one another; labels as arguments. -/
import Derived.Test.YtlnijcfgkhbfhaaDoorLabE
import Derived.RangeFuncRecord
import Derived.Laws.StructEq
import Derived.Laws.Tables
import Derived.Laws.Cover2
namespace Go.Proofs.YtlnijcfgkhbfhaaDoor
open Go.RowKit
set_option linter.unusedVariables false

def exl : Lb := ⟨2016, 12, 31, 15, 59, 60, 0, -480⟩
set_option maxHeartbeats 1000000 in
theorem lalive_any (w : World) (he : Ends w) : Calls Tryd.prog 8 #[] w fun e w' => e = .returned (.bool true) ∧ Below w.heap.size w w' := by
  have HS := Lib.hid (lsplit_any exl w he)
  rw [show lbN exl = 17166 by decide +kernel, show lbT exl = 86400 by decide +kernel, show lbE exl = 0 by decide +kernel] at HS
  have q0 := fun op t W x k => guard_ev op t W x k
  have q1 := fun W k => eql_ev W k
  clear he
  go_enter Tryd.func8, Tryd.ntmps8
  go_wp2_with fail
  refine HS.out.mono ?_
  rintro e w1 ⟨rfl, hb⟩
  have B1 := Lib.hid hb
  clear hb
  go_wp2_with fail
  go_ret
  exact ⟨rfl, B1.out⟩

set_option maxRecDepth 100000 in
set_option maxHeartbeats 2000000 in
theorem ldoc_any (l : Lb) (w : World) : Calls Tryd.prog 11 #[.agg l.cells] w fun e w' => e = .returned (.agg l.cells) ∧ Below w.heap.size w w' := by
  obtain ⟨W0, hW0⟩ : ∃ W0, W0 = (w.alloc (.cells l.cells 23)).alloc (.cells #[.int .i64 0, .int .i64 0, .int .i64 0, .int .i64 0, .int .i64 0, .int .i64 0, .int .i64 0, .int .i64 0] 31) := ⟨_, rfl⟩
  obtain ⟨p0, z0, b0⟩ := two_lk 23 31 w l
  rw [show (w.alloc (.cells l.cells 23)).alloc (.cells lb0.cells 31) = W0 from hW0.symm] at p0 z0 b0
  obtain ⟨c0, c1, c2, c3, c4, c5, c6, c7⟩ := p0.all
  obtain ⟨d0, d1, d2, d3, d4, d5, d6, d7⟩ := z0.all
  obtain ⟨f0, f1, f2, f3, f4, f5, f6, f7⟩ := z0.frees
  have Z0 := Lib.hid z0; have B0 := Lib.hid b0
  clear p0 z0 b0
  obtain ⟨y, m, d, h, i, s, n, o⟩ := l
  simp only [] at c0 c1 c2 c3 c4 c5 c6 c7
  show Calls _ _ _ _ fun e w' => e = .returned (.agg #[.int .i64 y, .int .i64 m, .int .i64 d, .int .i64 h, .int .i64 i, .int .i64 s, .int .i64 n, .int .i64 o]) ∧ _
  go_enter Tryd.func11, Tryd.ntmps11
  go_upto_region 1 with fail
  rw [← hW0]; clear hW0
  go_wp2_with fail
  have hP := put8_lk Z0.out y m d h i s n o
  have hB := put8_below B0.out (Nat.le_succ _) y m d h i s n o
  obtain ⟨W9, hW9⟩ : ∃ W9, W9 = put8 W0 (w.heap.size + 1) y m d h i s n o := ⟨_, rfl⟩
  rw [← hW9] at hP hB
  show bodyPost _ _ _ _ _ (put8 W0 (w.heap.size + 1) y m d h i s n o)
  rw [← hW9]
  clear hW9
  obtain ⟨r0, r1, r2, r3, r4, r5, r6, r7⟩ := hP.all
  clear hP
  refine bodyPost_ret (v := .agg #[.int .i64 y, .int .i64 m, .int .i64 d, .int .i64 h, .int .i64 i, .int .i64 s, .int .i64 n, .int .i64 o]) (by simp [results, Tryd.results11, go_sem, r0, r1, r2, r3, r4, r5, r6, r7]) rfl ⟨rfl, hB⟩

/-- A label is itself. -/
theorem eq_lab (y m d h i s n o : Int) (w : World) : (Op.equalIn 10000 23 (.agg #[.int .i64 y, .int .i64 m, .int .i64 d, .int .i64 h, .int .i64 i, .int .i64 s, .int .i64 n, .int .i64 o]) (.agg #[.int .i64 y, .int .i64 m, .int .i64 d, .int .i64 h, .int .i64 i, .int .i64 s, .int .i64 n, .int .i64 o])).run Tryd.prog w = .ok true w := by
  have u3 := Tryd.underlying3
  have a3 := Tryd.isAgg3
  have z3 := Tryd.sizeOf3
  rw [show (10000 : Nat) = 9999 + 1 from rfl, Op.equalIn]
  simp only [Sem.run_bind, run_underlying Tryd.underlying23, Result.andThen_ok]
  go_simp

theorem eq_doc (y m d h i s n o : Int) (w : World) : (Op.equalIn 10000 31 (.agg #[.int .i64 y, .int .i64 m, .int .i64 d, .int .i64 h, .int .i64 i, .int .i64 s, .int .i64 n, .int .i64 o]) (.agg #[.int .i64 y, .int .i64 m, .int .i64 d, .int .i64 h, .int .i64 i, .int .i64 s, .int .i64 n, .int .i64 o])).run Tryd.prog w = .ok true w := by
  have u3 := Tryd.underlying3
  have a3 := Tryd.isAgg3
  have z3 := Tryd.sizeOf3
  rw [show (10000 : Nat) = 9999 + 1 from rfl, Op.equalIn]
  simp only [Sem.run_bind, run_underlying Tryd.underlying31, Result.andThen_ok]
  go_simp

end Go.Proofs.YtlnijcfgkhbfhaaDoor
