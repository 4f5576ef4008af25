/- The statements of layer 8: the fixed fact; Document; labels held against one another; labels as arguments. -/
import Derived.Test.YtiamggjebaabkaaDoorLabE
import Derived.RangeFuncRecord
import Derived.Laws.StructEq
import Derived.Laws.Tables
import Derived.Laws.Cover2
namespace Go.Proofs.YtiamggjebaabkaaDoor
open Go.RowKit
set_option linter.unusedVariables false

def exl : Lb := ⟨2016, 12, 31, 15, 59, 60, 0, -480⟩
set_option maxRecDepth 100000 in
set_option maxHeartbeats 2000000 in
theorem ldoc_any (l : Lb) (w : World) : Calls Tryd.prog 12 #[.agg l.cells] w fun e w' => e = .returned (.agg l.cells) ∧ Below w.heap.size w w' := by
  obtain ⟨W0, hW0⟩ : ∃ W0, W0 = (w.alloc (.cells l.cells 26)).alloc (.cells #[.int .i64 0, .int .i64 0, .int .i64 0, .int .i64 0, .int .i64 0, .int .i64 0, .int .i64 0, .int .i64 0] 35) := ⟨_, rfl⟩
  obtain ⟨p0, z0, b0⟩ := two_lk 26 35 w l
  rw [show (w.alloc (.cells l.cells 26)).alloc (.cells lb0.cells 35) = W0 from hW0.symm] at p0 z0 b0
  obtain ⟨c0, c1, c2, c3, c4, c5, c6, c7⟩ := p0.all
  obtain ⟨d0, d1, d2, d3, d4, d5, d6, d7⟩ := z0.all
  obtain ⟨f0, f1, f2, f3, f4, f5, f6, f7⟩ := z0.frees
  have Z0 := Lib.hid z0; have B0 := Lib.hid b0
  clear p0 z0 b0
  obtain ⟨y, m, d, h, i, s, n, o⟩ := l
  simp only [] at c0 c1 c2 c3 c4 c5 c6 c7
  show Calls _ _ _ _ fun e w' => e = .returned (.agg #[.int .i64 y, .int .i64 m, .int .i64 d, .int .i64 h, .int .i64 i, .int .i64 s, .int .i64 n, .int .i64 o]) ∧ _
  go_enter Tryd.func12, Tryd.ntmps12
  go_upto_region 1 with fail
  rw [← hW0]; clear hW0
  go_wp2_with fail
  have hP := put8_lk Z0.out y m d h i s n o
  have hB := put8_below B0.out (Nat.le_succ _) y m d h i s n o
  obtain ⟨W9, hW9⟩ : ∃ W9, W9 = put8 W0 (w.heap.size + 1) y m d h i s n o := ⟨_, rfl⟩
  rw [← hW9] at hP hB
  show bodyPost _ _ _ _ _ (put8 W0 (w.heap.size + 1) y m d h i s n o)
  rw [← hW9]
  clear hW9
  obtain ⟨r0, r1, r2, r3, r4, r5, r6, r7⟩ := hP.all
  clear hP
  refine bodyPost_ret (v := .agg #[.int .i64 y, .int .i64 m, .int .i64 d, .int .i64 h, .int .i64 i, .int .i64 s, .int .i64 n, .int .i64 o]) (by simp [results, Tryd.results12, go_sem, r0, r1, r2, r3, r4, r5, r6, r7]) rfl ⟨rfl, hB⟩

/-- A label is itself. -/
theorem eq_lab (y m d h i s n o : Int) (w : World) : (Op.equalIn 10000 26 (.agg #[.int .i64 y, .int .i64 m, .int .i64 d, .int .i64 h, .int .i64 i, .int .i64 s, .int .i64 n, .int .i64 o]) (.agg #[.int .i64 y, .int .i64 m, .int .i64 d, .int .i64 h, .int .i64 i, .int .i64 s, .int .i64 n, .int .i64 o])).run Tryd.prog w = .ok true w := by
  have u3 := Tryd.underlying3
  have a3 := Tryd.isAgg3
  have z3 := Tryd.sizeOf3
  rw [show (10000 : Nat) = 9999 + 1 from rfl, Op.equalIn]
  simp only [Sem.run_bind, run_underlying Tryd.underlying26, Result.andThen_ok]
  go_simp

theorem eq_doc (y m d h i s n o : Int) (w : World) : (Op.equalIn 10000 35 (.agg #[.int .i64 y, .int .i64 m, .int .i64 d, .int .i64 h, .int .i64 i, .int .i64 s, .int .i64 n, .int .i64 o]) (.agg #[.int .i64 y, .int .i64 m, .int .i64 d, .int .i64 h, .int .i64 i, .int .i64 s, .int .i64 n, .int .i64 o])).run Tryd.prog w = .ok true w := by
  have u3 := Tryd.underlying3
  have a3 := Tryd.isAgg3
  have z3 := Tryd.sizeOf3
  rw [show (10000 : Nat) = 9999 + 1 from rfl, Op.equalIn]
  simp only [Sem.run_bind, run_underlying Tryd.underlying35, Result.andThen_ok]
  go_simp

end Go.Proofs.YtiamggjebaabkaaDoor
