/- Merged: PosO. -/
import Derived.Test.YtkhcneacjnpcnaaGreatDoorGPosixChecks42
namespace Go.Proofs.YtkhcneacjnpcnaaGreatDoor
open Go.RowKit
set_option linter.unusedVariables false
set_option linter.unusedSimpArgs false

theorem eq_dru0 (k m d a t : Int) (w : World) : (Op.equalIn 10000 29 (.agg #[.int .i64 k, .int .i64 m, .int .i64 d, .int .i64 a, .int .i64 t]) (.agg #[.int .i64 0, .int .i64 0, .int .i64 0, .int .i64 0, .int .i64 0])).run Tryz.prog w = .ok (decide (ruZ ⟨k, m, d, a, t⟩)) w := by
  have u3 := Tryz.underlying3
  have a3 := Tryz.isAgg3
  have z3 := Tryz.sizeOf3
  have hz : decide (ruZ ⟨k, m, d, a, t⟩) = ((k == 0) && ((m == 0) && ((d == 0) && ((a == 0) && (t == 0))))) := by
    rw [Bool.eq_iff_iff]; unfold ruZ; simp; exact decide_eq_true_iff
  rw [hz, show (10000 : Nat) = 9999 + 1 from rfl, Op.equalIn]
  simp only [Sem.run_bind, run_underlying Tryz.underlying29, Result.andThen_ok]
  clear hz
  cases h0 : (k == 0)
  · go_simp
  · cases h1 : (m == 0)
    · go_simp
    · cases h2 : (d == 0)
      · go_simp
      · cases h3 : (a == 0)
        · go_simp
        · cases h4 : (t == 0) <;> go_simp
set_option maxRecDepth 100000 in
set_option maxHeartbeats 8000000 in
theorem dchk17_1 (SN SS : ByteArray) (o a K M D A C K2 M2 D2 A2 C2 : Int) (F : Int)  (w : World)
    (HN : Hid (∀ w, Calls Tryz.prog 14 #[.string SN] w fun x w' => x = .returned (.bool false) ∧ w = w'))
    : Calls Tryz.prog 6 #[.agg #[.string SN, .string SS, .int .i64 o, .int .i64 a, .int .i64 K, .int .i64 M, .int .i64 D, .int .i64 A, .int .i64 C, .int .i64 K2, .int .i64 M2, .int .i64 D2, .int .i64 A2, .int .i64 C2]] w fun x w' => x = .returned (.int .i64 2) ∧ Below w.heap.size w w' := by
  have eB := eq_dru0 K M D A C
  have eE := eq_dru0 K2 M2 D2 A2 C2
  obtain ⟨W0, hW0⟩ : ∃ W0, W0 = w.alloc (.cells #[.string SN, .string SS, .int .i64 o, .int .i64 a, .int .i64 K, .int .i64 M, .int .i64 D, .int .i64 A, .int .i64 C, .int .i64 K2, .int .i64 M2, .int .i64 D2, .int .i64 A2, .int .i64 C2] 31) := ⟨_, rfl⟩
  have b0 : Below w.heap.size w W0 := by rw [hW0]; exact bel16 w _
  have L0 : W0.heap[w.heap.size]? = some (.cells #[.string SN, .string SS, .int .i64 o, .int .i64 a, .int .i64 K, .int .i64 M, .int .i64 D, .int .i64 A, .int .i64 C, .int .i64 K2, .int .i64 M2, .int .i64 D2, .int .i64 A2, .int .i64 C2] 31 (0, 0)) := by rw [hW0]; exact heap_alloc_new w _
  have B := Lib.hid b0
  have R := Lib.hid L0
  obtain ⟨c0, c1, c2, c3, c4, c5, c6, c7, c8, c9, c10, c11, c12, c13⟩ := see_block14 L0
  clear b0 L0
  go_enter Tryz.func6, Tryz.ntmps6
  go_upto_region 1 with fail
  rw [← hW0]; clear hW0
  go_wp2_with (first
    | (go_at_call 14; with_reducible refine (HN.out _).mono ?_; rintro x w1 ⟨rfl, rfl⟩))
  go_ret
  exact ⟨rfl, B.out⟩
set_option maxRecDepth 100000 in
set_option maxHeartbeats 8000000 in
theorem dchk17_2 (SN SS : ByteArray) (o a K M D A C K2 M2 D2 A2 C2 : Int) (F : Int) (ts : ((SS.size : Int) == 0) = true) (tp : ¬ 0 < SS.size) (t1 : (a != 0) = true) (w : World)
    (HN : Hid (∀ w, Calls Tryz.prog 14 #[.string SN] w fun x w' => x = .returned (.bool true) ∧ w = w'))
    : Calls Tryz.prog 6 #[.agg #[.string SN, .string SS, .int .i64 o, .int .i64 a, .int .i64 K, .int .i64 M, .int .i64 D, .int .i64 A, .int .i64 C, .int .i64 K2, .int .i64 M2, .int .i64 D2, .int .i64 A2, .int .i64 C2]] w fun x w' => x = .returned (.int .i64 2) ∧ Below w.heap.size w w' := by
  have eB := eq_dru0 K M D A C
  have eE := eq_dru0 K2 M2 D2 A2 C2
  obtain ⟨W0, hW0⟩ : ∃ W0, W0 = w.alloc (.cells #[.string SN, .string SS, .int .i64 o, .int .i64 a, .int .i64 K, .int .i64 M, .int .i64 D, .int .i64 A, .int .i64 C, .int .i64 K2, .int .i64 M2, .int .i64 D2, .int .i64 A2, .int .i64 C2] 31) := ⟨_, rfl⟩
  have b0 : Below w.heap.size w W0 := by rw [hW0]; exact bel16 w _
  have L0 : W0.heap[w.heap.size]? = some (.cells #[.string SN, .string SS, .int .i64 o, .int .i64 a, .int .i64 K, .int .i64 M, .int .i64 D, .int .i64 A, .int .i64 C, .int .i64 K2, .int .i64 M2, .int .i64 D2, .int .i64 A2, .int .i64 C2] 31 (0, 0)) := by rw [hW0]; exact heap_alloc_new w _
  have B := Lib.hid b0
  have R := Lib.hid L0
  obtain ⟨c0, c1, c2, c3, c4, c5, c6, c7, c8, c9, c10, c11, c12, c13⟩ := see_block14 L0
  clear b0 L0
  go_enter Tryz.func6, Tryz.ntmps6
  go_upto_region 1 with fail
  rw [← hW0]; clear hW0
  go_upto_region 4 with (first
    | (go_at_call 14; with_reducible refine (HN.out _).mono ?_; rintro x w1 ⟨rfl, rfl⟩))
  have b4 := bel16 W0 (.cells (#[.int .i64 0, .int .i64 0, .int .i64 0, .int .i64 0, .int .i64 0] : Array Value) 29)
  have n4 : (W0.alloc (.cells (#[.int .i64 0, .int .i64 0, .int .i64 0, .int .i64 0, .int .i64 0] : Array Value) 29)).heap[W0.heap.size]? = some (.cells (#[.int .i64 0, .int .i64 0, .int .i64 0, .int .i64 0, .int .i64 0] : Array Value) 29 (0, 0)) := heap_alloc_new W0 _
  obtain ⟨z, hz⟩ : ∃ z, z = W0.heap.size := ⟨_, rfl⟩
  obtain ⟨W4, hW4⟩ : ∃ W4, W4 = W0.alloc (.cells (#[.int .i64 0, .int .i64 0, .int .i64 0, .int .i64 0, .int .i64 0] : Array Value) 29) := ⟨_, rfl⟩
  rw [← hW4] at b4 n4
  rw [← hz] at n4
  rw [← hW4, ← hz]
  replace R := Lib.hid (bel_keep b4 R.out)
  replace B := Lib.hid (B.out.trans (b4.mono B.out.size))
  obtain ⟨y0, y1, y2, y3, y4⟩ : W4.cell? ⟨z, 0, none⟩ = some (.int .i64 0) ∧ W4.cell? ⟨z, 1, none⟩ = some (.int .i64 0) ∧ W4.cell? ⟨z, 2, none⟩ = some (.int .i64 0) ∧ W4.cell? ⟨z, 3, none⟩ = some (.int .i64 0) ∧ W4.cell? ⟨z, 4, none⟩ = some (.int .i64 0) := ⟨bk_cell n4 0, bk_cell n4 1, bk_cell n4 2, bk_cell n4 3, bk_cell n4 4⟩
  clear hW4 hz b4 n4
  obtain ⟨c0, c1, c2, c3, c4, c5, c6, c7, c8, c9, c10, c11, c12, c13⟩ := see_block14 R.out
  go_wp2_with fail
  go_ret
  exact ⟨rfl, B.out⟩
set_option maxRecDepth 100000 in
set_option maxHeartbeats 8000000 in
theorem dchk17_3 (SN SS : ByteArray) (o a K M D A C K2 M2 D2 A2 C2 : Int) (F : Int) (ts : ((SS.size : Int) == 0) = true) (tp : ¬ 0 < SS.size) (t1 : (a != 0) = false) (z1 : decide (ruZ ⟨K, M, D, A, C⟩) = false) (w : World)
    (HN : Hid (∀ w, Calls Tryz.prog 14 #[.string SN] w fun x w' => x = .returned (.bool true) ∧ w = w'))
    : Calls Tryz.prog 6 #[.agg #[.string SN, .string SS, .int .i64 o, .int .i64 a, .int .i64 K, .int .i64 M, .int .i64 D, .int .i64 A, .int .i64 C, .int .i64 K2, .int .i64 M2, .int .i64 D2, .int .i64 A2, .int .i64 C2]] w fun x w' => x = .returned (.int .i64 2) ∧ Below w.heap.size w w' := by
  have eB := eq_dru0 K M D A C
  have eE := eq_dru0 K2 M2 D2 A2 C2
  obtain ⟨W0, hW0⟩ : ∃ W0, W0 = w.alloc (.cells #[.string SN, .string SS, .int .i64 o, .int .i64 a, .int .i64 K, .int .i64 M, .int .i64 D, .int .i64 A, .int .i64 C, .int .i64 K2, .int .i64 M2, .int .i64 D2, .int .i64 A2, .int .i64 C2] 31) := ⟨_, rfl⟩
  have b0 : Below w.heap.size w W0 := by rw [hW0]; exact bel16 w _
  have L0 : W0.heap[w.heap.size]? = some (.cells #[.string SN, .string SS, .int .i64 o, .int .i64 a, .int .i64 K, .int .i64 M, .int .i64 D, .int .i64 A, .int .i64 C, .int .i64 K2, .int .i64 M2, .int .i64 D2, .int .i64 A2, .int .i64 C2] 31 (0, 0)) := by rw [hW0]; exact heap_alloc_new w _
  have B := Lib.hid b0
  have R := Lib.hid L0
  obtain ⟨c0, c1, c2, c3, c4, c5, c6, c7, c8, c9, c10, c11, c12, c13⟩ := see_block14 L0
  clear b0 L0
  go_enter Tryz.func6, Tryz.ntmps6
  go_upto_region 1 with fail
  rw [← hW0]; clear hW0
  go_upto_region 4 with (first
    | (go_at_call 14; with_reducible refine (HN.out _).mono ?_; rintro x w1 ⟨rfl, rfl⟩))
  have b4 := bel16 W0 (.cells (#[.int .i64 0, .int .i64 0, .int .i64 0, .int .i64 0, .int .i64 0] : Array Value) 29)
  have n4 : (W0.alloc (.cells (#[.int .i64 0, .int .i64 0, .int .i64 0, .int .i64 0, .int .i64 0] : Array Value) 29)).heap[W0.heap.size]? = some (.cells (#[.int .i64 0, .int .i64 0, .int .i64 0, .int .i64 0, .int .i64 0] : Array Value) 29 (0, 0)) := heap_alloc_new W0 _
  obtain ⟨z, hz⟩ : ∃ z, z = W0.heap.size := ⟨_, rfl⟩
  obtain ⟨W4, hW4⟩ : ∃ W4, W4 = W0.alloc (.cells (#[.int .i64 0, .int .i64 0, .int .i64 0, .int .i64 0, .int .i64 0] : Array Value) 29) := ⟨_, rfl⟩
  rw [← hW4] at b4 n4
  rw [← hz] at n4
  rw [← hW4, ← hz]
  replace R := Lib.hid (bel_keep b4 R.out)
  replace B := Lib.hid (B.out.trans (b4.mono B.out.size))
  obtain ⟨y0, y1, y2, y3, y4⟩ : W4.cell? ⟨z, 0, none⟩ = some (.int .i64 0) ∧ W4.cell? ⟨z, 1, none⟩ = some (.int .i64 0) ∧ W4.cell? ⟨z, 2, none⟩ = some (.int .i64 0) ∧ W4.cell? ⟨z, 3, none⟩ = some (.int .i64 0) ∧ W4.cell? ⟨z, 4, none⟩ = some (.int .i64 0) := ⟨bk_cell n4 0, bk_cell n4 1, bk_cell n4 2, bk_cell n4 3, bk_cell n4 4⟩
  clear hW4 hz b4 n4
  obtain ⟨c0, c1, c2, c3, c4, c5, c6, c7, c8, c9, c10, c11, c12, c13⟩ := see_block14 R.out
  go_wp2_with fail
  go_ret
  exact ⟨rfl, B.out⟩
set_option maxRecDepth 100000 in
set_option maxHeartbeats 8000000 in
theorem dchk17_4 (SN SS : ByteArray) (o a K M D A C K2 M2 D2 A2 C2 : Int) (F : Int) (ts : ((SS.size : Int) == 0) = true) (tp : ¬ 0 < SS.size) (t1 : (a != 0) = false) (z1 : decide (ruZ ⟨K, M, D, A, C⟩) = true) (z2 : decide (ruZ ⟨K2, M2, D2, A2, C2⟩) = false) (w : World)
    (HN : Hid (∀ w, Calls Tryz.prog 14 #[.string SN] w fun x w' => x = .returned (.bool true) ∧ w = w'))
    : Calls Tryz.prog 6 #[.agg #[.string SN, .string SS, .int .i64 o, .int .i64 a, .int .i64 K, .int .i64 M, .int .i64 D, .int .i64 A, .int .i64 C, .int .i64 K2, .int .i64 M2, .int .i64 D2, .int .i64 A2, .int .i64 C2]] w fun x w' => x = .returned (.int .i64 2) ∧ Below w.heap.size w w' := by
  have eB := eq_dru0 K M D A C
  have eE := eq_dru0 K2 M2 D2 A2 C2
  obtain ⟨W0, hW0⟩ : ∃ W0, W0 = w.alloc (.cells #[.string SN, .string SS, .int .i64 o, .int .i64 a, .int .i64 K, .int .i64 M, .int .i64 D, .int .i64 A, .int .i64 C, .int .i64 K2, .int .i64 M2, .int .i64 D2, .int .i64 A2, .int .i64 C2] 31) := ⟨_, rfl⟩
  have b0 : Below w.heap.size w W0 := by rw [hW0]; exact bel16 w _
  have L0 : W0.heap[w.heap.size]? = some (.cells #[.string SN, .string SS, .int .i64 o, .int .i64 a, .int .i64 K, .int .i64 M, .int .i64 D, .int .i64 A, .int .i64 C, .int .i64 K2, .int .i64 M2, .int .i64 D2, .int .i64 A2, .int .i64 C2] 31 (0, 0)) := by rw [hW0]; exact heap_alloc_new w _
  have B := Lib.hid b0
  have R := Lib.hid L0
  obtain ⟨c0, c1, c2, c3, c4, c5, c6, c7, c8, c9, c10, c11, c12, c13⟩ := see_block14 L0
  clear b0 L0
  go_enter Tryz.func6, Tryz.ntmps6
  go_upto_region 1 with fail
  rw [← hW0]; clear hW0
  go_upto_region 4 with (first
    | (go_at_call 14; with_reducible refine (HN.out _).mono ?_; rintro x w1 ⟨rfl, rfl⟩))
  have b4 := bel16 W0 (.cells (#[.int .i64 0, .int .i64 0, .int .i64 0, .int .i64 0, .int .i64 0] : Array Value) 29)
  have n4 : (W0.alloc (.cells (#[.int .i64 0, .int .i64 0, .int .i64 0, .int .i64 0, .int .i64 0] : Array Value) 29)).heap[W0.heap.size]? = some (.cells (#[.int .i64 0, .int .i64 0, .int .i64 0, .int .i64 0, .int .i64 0] : Array Value) 29 (0, 0)) := heap_alloc_new W0 _
  obtain ⟨z, hz⟩ : ∃ z, z = W0.heap.size := ⟨_, rfl⟩
  obtain ⟨W4, hW4⟩ : ∃ W4, W4 = W0.alloc (.cells (#[.int .i64 0, .int .i64 0, .int .i64 0, .int .i64 0, .int .i64 0] : Array Value) 29) := ⟨_, rfl⟩
  rw [← hW4] at b4 n4
  rw [← hz] at n4
  rw [← hW4, ← hz]
  replace R := Lib.hid (bel_keep b4 R.out)
  replace B := Lib.hid (B.out.trans (b4.mono B.out.size))
  obtain ⟨y0, y1, y2, y3, y4⟩ : W4.cell? ⟨z, 0, none⟩ = some (.int .i64 0) ∧ W4.cell? ⟨z, 1, none⟩ = some (.int .i64 0) ∧ W4.cell? ⟨z, 2, none⟩ = some (.int .i64 0) ∧ W4.cell? ⟨z, 3, none⟩ = some (.int .i64 0) ∧ W4.cell? ⟨z, 4, none⟩ = some (.int .i64 0) := ⟨bk_cell n4 0, bk_cell n4 1, bk_cell n4 2, bk_cell n4 3, bk_cell n4 4⟩
  clear hW4 hz b4 n4
  obtain ⟨c0, c1, c2, c3, c4, c5, c6, c7, c8, c9, c10, c11, c12, c13⟩ := see_block14 R.out
  go_wp2_with fail
  go_ret
  exact ⟨rfl, B.out⟩
set_option maxRecDepth 100000 in
set_option maxHeartbeats 8000000 in
theorem dchk17_5 (SN SS : ByteArray) (o a K M D A C K2 M2 D2 A2 C2 : Int) (F : Int) (ts : ((SS.size : Int) == 0) = false) (tp : 0 < SS.size) (w : World)
    (HN : Hid (∀ w, Calls Tryz.prog 14 #[.string SN] w fun x w' => x = .returned (.bool true) ∧ w = w'))
    (HS : Hid (∀ w, Calls Tryz.prog 14 #[.string SS] w fun x w' => x = .returned (.bool false) ∧ w = w'))
    : Calls Tryz.prog 6 #[.agg #[.string SN, .string SS, .int .i64 o, .int .i64 a, .int .i64 K, .int .i64 M, .int .i64 D, .int .i64 A, .int .i64 C, .int .i64 K2, .int .i64 M2, .int .i64 D2, .int .i64 A2, .int .i64 C2]] w fun x w' => x = .returned (.int .i64 2) ∧ Below w.heap.size w w' := by
  have eB := eq_dru0 K M D A C
  have eE := eq_dru0 K2 M2 D2 A2 C2
  obtain ⟨W0, hW0⟩ : ∃ W0, W0 = w.alloc (.cells #[.string SN, .string SS, .int .i64 o, .int .i64 a, .int .i64 K, .int .i64 M, .int .i64 D, .int .i64 A, .int .i64 C, .int .i64 K2, .int .i64 M2, .int .i64 D2, .int .i64 A2, .int .i64 C2] 31) := ⟨_, rfl⟩
  have b0 : Below w.heap.size w W0 := by rw [hW0]; exact bel16 w _
  have L0 : W0.heap[w.heap.size]? = some (.cells #[.string SN, .string SS, .int .i64 o, .int .i64 a, .int .i64 K, .int .i64 M, .int .i64 D, .int .i64 A, .int .i64 C, .int .i64 K2, .int .i64 M2, .int .i64 D2, .int .i64 A2, .int .i64 C2] 31 (0, 0)) := by rw [hW0]; exact heap_alloc_new w _
  have B := Lib.hid b0
  have R := Lib.hid L0
  obtain ⟨c0, c1, c2, c3, c4, c5, c6, c7, c8, c9, c10, c11, c12, c13⟩ := see_block14 L0
  clear b0 L0
  go_enter Tryz.func6, Tryz.ntmps6
  go_upto_region 1 with fail
  rw [← hW0]; clear hW0
  go_upto_region 4 with (first
    | (go_at_call 14; with_reducible refine (HN.out _).mono ?_; rintro x w1 ⟨rfl, rfl⟩))
  have b4 := bel16 W0 (.cells (#[.int .i64 0, .int .i64 0, .int .i64 0, .int .i64 0, .int .i64 0] : Array Value) 29)
  have n4 : (W0.alloc (.cells (#[.int .i64 0, .int .i64 0, .int .i64 0, .int .i64 0, .int .i64 0] : Array Value) 29)).heap[W0.heap.size]? = some (.cells (#[.int .i64 0, .int .i64 0, .int .i64 0, .int .i64 0, .int .i64 0] : Array Value) 29 (0, 0)) := heap_alloc_new W0 _
  obtain ⟨z, hz⟩ : ∃ z, z = W0.heap.size := ⟨_, rfl⟩
  obtain ⟨W4, hW4⟩ : ∃ W4, W4 = W0.alloc (.cells (#[.int .i64 0, .int .i64 0, .int .i64 0, .int .i64 0, .int .i64 0] : Array Value) 29) := ⟨_, rfl⟩
  rw [← hW4] at b4 n4
  rw [← hz] at n4
  rw [← hW4, ← hz]
  replace R := Lib.hid (bel_keep b4 R.out)
  replace B := Lib.hid (B.out.trans (b4.mono B.out.size))
  obtain ⟨y0, y1, y2, y3, y4⟩ : W4.cell? ⟨z, 0, none⟩ = some (.int .i64 0) ∧ W4.cell? ⟨z, 1, none⟩ = some (.int .i64 0) ∧ W4.cell? ⟨z, 2, none⟩ = some (.int .i64 0) ∧ W4.cell? ⟨z, 3, none⟩ = some (.int .i64 0) ∧ W4.cell? ⟨z, 4, none⟩ = some (.int .i64 0) := ⟨bk_cell n4 0, bk_cell n4 1, bk_cell n4 2, bk_cell n4 3, bk_cell n4 4⟩
  clear hW4 hz b4 n4
  obtain ⟨c0, c1, c2, c3, c4, c5, c6, c7, c8, c9, c10, c11, c12, c13⟩ := see_block14 R.out
  go_wp2_with (first
    | (go_at_call 14; with_reducible refine (HS.out _).mono ?_; rintro x w2 ⟨rfl, rfl⟩))
  go_ret
  exact ⟨rfl, B.out⟩
set_option maxRecDepth 100000 in
set_option maxHeartbeats 8000000 in
theorem dchk17_6 (SN SS : ByteArray) (o a K M D A C K2 M2 D2 A2 C2 : Int) (F : Int) (ts : ((SS.size : Int) == 0) = true) (tp : ¬ 0 < SS.size) (t1 : (a != 0) = false) (z1 : decide (ruZ ⟨K, M, D, A, C⟩) = true) (z2 : decide (ruZ ⟨K2, M2, D2, A2, C2⟩) = true) (u0 : decide (o < -89999) = true) (w : World)
    (HN : Hid (∀ w, Calls Tryz.prog 14 #[.string SN] w fun x w' => x = .returned (.bool true) ∧ w = w'))
    : Calls Tryz.prog 6 #[.agg #[.string SN, .string SS, .int .i64 o, .int .i64 a, .int .i64 K, .int .i64 M, .int .i64 D, .int .i64 A, .int .i64 C, .int .i64 K2, .int .i64 M2, .int .i64 D2, .int .i64 A2, .int .i64 C2]] w fun x w' => x = .returned (.int .i64 1) ∧ Below w.heap.size w w' := by
  have eB := eq_dru0 K M D A C
  have eE := eq_dru0 K2 M2 D2 A2 C2
  obtain ⟨W0, hW0⟩ : ∃ W0, W0 = w.alloc (.cells #[.string SN, .string SS, .int .i64 o, .int .i64 a, .int .i64 K, .int .i64 M, .int .i64 D, .int .i64 A, .int .i64 C, .int .i64 K2, .int .i64 M2, .int .i64 D2, .int .i64 A2, .int .i64 C2] 31) := ⟨_, rfl⟩
  have b0 : Below w.heap.size w W0 := by rw [hW0]; exact bel16 w _
  have L0 : W0.heap[w.heap.size]? = some (.cells #[.string SN, .string SS, .int .i64 o, .int .i64 a, .int .i64 K, .int .i64 M, .int .i64 D, .int .i64 A, .int .i64 C, .int .i64 K2, .int .i64 M2, .int .i64 D2, .int .i64 A2, .int .i64 C2] 31 (0, 0)) := by rw [hW0]; exact heap_alloc_new w _
  have B := Lib.hid b0
  have R := Lib.hid L0
  obtain ⟨c0, c1, c2, c3, c4, c5, c6, c7, c8, c9, c10, c11, c12, c13⟩ := see_block14 L0
  clear b0 L0
  go_enter Tryz.func6, Tryz.ntmps6
  go_upto_region 1 with fail
  rw [← hW0]; clear hW0
  go_upto_region 4 with (first
    | (go_at_call 14; with_reducible refine (HN.out _).mono ?_; rintro x w1 ⟨rfl, rfl⟩))
  have b4 := bel16 W0 (.cells (#[.int .i64 0, .int .i64 0, .int .i64 0, .int .i64 0, .int .i64 0] : Array Value) 29)
  have n4 : (W0.alloc (.cells (#[.int .i64 0, .int .i64 0, .int .i64 0, .int .i64 0, .int .i64 0] : Array Value) 29)).heap[W0.heap.size]? = some (.cells (#[.int .i64 0, .int .i64 0, .int .i64 0, .int .i64 0, .int .i64 0] : Array Value) 29 (0, 0)) := heap_alloc_new W0 _
  obtain ⟨z, hz⟩ : ∃ z, z = W0.heap.size := ⟨_, rfl⟩
  obtain ⟨W4, hW4⟩ : ∃ W4, W4 = W0.alloc (.cells (#[.int .i64 0, .int .i64 0, .int .i64 0, .int .i64 0, .int .i64 0] : Array Value) 29) := ⟨_, rfl⟩
  rw [← hW4] at b4 n4
  rw [← hz] at n4
  rw [← hW4, ← hz]
  replace R := Lib.hid (bel_keep b4 R.out)
  replace B := Lib.hid (B.out.trans (b4.mono B.out.size))
  obtain ⟨y0, y1, y2, y3, y4⟩ : W4.cell? ⟨z, 0, none⟩ = some (.int .i64 0) ∧ W4.cell? ⟨z, 1, none⟩ = some (.int .i64 0) ∧ W4.cell? ⟨z, 2, none⟩ = some (.int .i64 0) ∧ W4.cell? ⟨z, 3, none⟩ = some (.int .i64 0) ∧ W4.cell? ⟨z, 4, none⟩ = some (.int .i64 0) := ⟨bk_cell n4 0, bk_cell n4 1, bk_cell n4 2, bk_cell n4 3, bk_cell n4 4⟩
  clear hW4 hz b4 n4
  obtain ⟨c0, c1, c2, c3, c4, c5, c6, c7, c8, c9, c10, c11, c12, c13⟩ := see_block14 R.out
  go_wp2_with fail
  go_ret
  exact ⟨rfl, B.out⟩
set_option maxRecDepth 100000 in
set_option maxHeartbeats 8000000 in
theorem dchk17_7 (SN SS : ByteArray) (o a K M D A C K2 M2 D2 A2 C2 : Int) (F : Int) (ts : ((SS.size : Int) == 0) = true) (tp : ¬ 0 < SS.size) (t1 : (a != 0) = false) (z1 : decide (ruZ ⟨K, M, D, A, C⟩) = true) (z2 : decide (ruZ ⟨K2, M2, D2, A2, C2⟩) = true) (u0 : decide (o < -89999) = false) (u1 : decide (89999 < o) = true) (w : World)
    (HN : Hid (∀ w, Calls Tryz.prog 14 #[.string SN] w fun x w' => x = .returned (.bool true) ∧ w = w'))
    : Calls Tryz.prog 6 #[.agg #[.string SN, .string SS, .int .i64 o, .int .i64 a, .int .i64 K, .int .i64 M, .int .i64 D, .int .i64 A, .int .i64 C, .int .i64 K2, .int .i64 M2, .int .i64 D2, .int .i64 A2, .int .i64 C2]] w fun x w' => x = .returned (.int .i64 1) ∧ Below w.heap.size w w' := by
  have eB := eq_dru0 K M D A C
  have eE := eq_dru0 K2 M2 D2 A2 C2
  obtain ⟨W0, hW0⟩ : ∃ W0, W0 = w.alloc (.cells #[.string SN, .string SS, .int .i64 o, .int .i64 a, .int .i64 K, .int .i64 M, .int .i64 D, .int .i64 A, .int .i64 C, .int .i64 K2, .int .i64 M2, .int .i64 D2, .int .i64 A2, .int .i64 C2] 31) := ⟨_, rfl⟩
  have b0 : Below w.heap.size w W0 := by rw [hW0]; exact bel16 w _
  have L0 : W0.heap[w.heap.size]? = some (.cells #[.string SN, .string SS, .int .i64 o, .int .i64 a, .int .i64 K, .int .i64 M, .int .i64 D, .int .i64 A, .int .i64 C, .int .i64 K2, .int .i64 M2, .int .i64 D2, .int .i64 A2, .int .i64 C2] 31 (0, 0)) := by rw [hW0]; exact heap_alloc_new w _
  have B := Lib.hid b0
  have R := Lib.hid L0
  obtain ⟨c0, c1, c2, c3, c4, c5, c6, c7, c8, c9, c10, c11, c12, c13⟩ := see_block14 L0
  clear b0 L0
  go_enter Tryz.func6, Tryz.ntmps6
  go_upto_region 1 with fail
  rw [← hW0]; clear hW0
  go_upto_region 4 with (first
    | (go_at_call 14; with_reducible refine (HN.out _).mono ?_; rintro x w1 ⟨rfl, rfl⟩))
  have b4 := bel16 W0 (.cells (#[.int .i64 0, .int .i64 0, .int .i64 0, .int .i64 0, .int .i64 0] : Array Value) 29)
  have n4 : (W0.alloc (.cells (#[.int .i64 0, .int .i64 0, .int .i64 0, .int .i64 0, .int .i64 0] : Array Value) 29)).heap[W0.heap.size]? = some (.cells (#[.int .i64 0, .int .i64 0, .int .i64 0, .int .i64 0, .int .i64 0] : Array Value) 29 (0, 0)) := heap_alloc_new W0 _
  obtain ⟨z, hz⟩ : ∃ z, z = W0.heap.size := ⟨_, rfl⟩
  obtain ⟨W4, hW4⟩ : ∃ W4, W4 = W0.alloc (.cells (#[.int .i64 0, .int .i64 0, .int .i64 0, .int .i64 0, .int .i64 0] : Array Value) 29) := ⟨_, rfl⟩
  rw [← hW4] at b4 n4
  rw [← hz] at n4
  rw [← hW4, ← hz]
  replace R := Lib.hid (bel_keep b4 R.out)
  replace B := Lib.hid (B.out.trans (b4.mono B.out.size))
  obtain ⟨y0, y1, y2, y3, y4⟩ : W4.cell? ⟨z, 0, none⟩ = some (.int .i64 0) ∧ W4.cell? ⟨z, 1, none⟩ = some (.int .i64 0) ∧ W4.cell? ⟨z, 2, none⟩ = some (.int .i64 0) ∧ W4.cell? ⟨z, 3, none⟩ = some (.int .i64 0) ∧ W4.cell? ⟨z, 4, none⟩ = some (.int .i64 0) := ⟨bk_cell n4 0, bk_cell n4 1, bk_cell n4 2, bk_cell n4 3, bk_cell n4 4⟩
  clear hW4 hz b4 n4
  obtain ⟨c0, c1, c2, c3, c4, c5, c6, c7, c8, c9, c10, c11, c12, c13⟩ := see_block14 R.out
  go_wp2_with fail
  go_ret
  exact ⟨rfl, B.out⟩
set_option maxRecDepth 100000 in
set_option maxHeartbeats 8000000 in
theorem dchk17_8 (SN SS : ByteArray) (o a K M D A C K2 M2 D2 A2 C2 : Int) (F : Int) (ts : ((SS.size : Int) == 0) = true) (tp : ¬ 0 < SS.size) (t1 : (a != 0) = false) (z1 : decide (ruZ ⟨K, M, D, A, C⟩) = true) (z2 : decide (ruZ ⟨K2, M2, D2, A2, C2⟩) = true) (u0 : decide (o < -89999) = false) (u1 : decide (89999 < o) = false) (u2 : decide (a < -89999) = false) (u3 : decide (89999 < a) = false) (w : World)
    (HN : Hid (∀ w, Calls Tryz.prog 14 #[.string SN] w fun x w' => x = .returned (.bool true) ∧ w = w'))
    : Calls Tryz.prog 6 #[.agg #[.string SN, .string SS, .int .i64 o, .int .i64 a, .int .i64 K, .int .i64 M, .int .i64 D, .int .i64 A, .int .i64 C, .int .i64 K2, .int .i64 M2, .int .i64 D2, .int .i64 A2, .int .i64 C2]] w fun x w' => x = .returned (.int .i64 0) ∧ Below w.heap.size w w' := by
  have eB := eq_dru0 K M D A C
  have eE := eq_dru0 K2 M2 D2 A2 C2
  obtain ⟨W0, hW0⟩ : ∃ W0, W0 = w.alloc (.cells #[.string SN, .string SS, .int .i64 o, .int .i64 a, .int .i64 K, .int .i64 M, .int .i64 D, .int .i64 A, .int .i64 C, .int .i64 K2, .int .i64 M2, .int .i64 D2, .int .i64 A2, .int .i64 C2] 31) := ⟨_, rfl⟩
  have b0 : Below w.heap.size w W0 := by rw [hW0]; exact bel16 w _
  have L0 : W0.heap[w.heap.size]? = some (.cells #[.string SN, .string SS, .int .i64 o, .int .i64 a, .int .i64 K, .int .i64 M, .int .i64 D, .int .i64 A, .int .i64 C, .int .i64 K2, .int .i64 M2, .int .i64 D2, .int .i64 A2, .int .i64 C2] 31 (0, 0)) := by rw [hW0]; exact heap_alloc_new w _
  have B := Lib.hid b0
  have R := Lib.hid L0
  obtain ⟨c0, c1, c2, c3, c4, c5, c6, c7, c8, c9, c10, c11, c12, c13⟩ := see_block14 L0
  clear b0 L0
  go_enter Tryz.func6, Tryz.ntmps6
  go_upto_region 1 with fail
  rw [← hW0]; clear hW0
  go_upto_region 4 with (first
    | (go_at_call 14; with_reducible refine (HN.out _).mono ?_; rintro x w1 ⟨rfl, rfl⟩))
  have b4 := bel16 W0 (.cells (#[.int .i64 0, .int .i64 0, .int .i64 0, .int .i64 0, .int .i64 0] : Array Value) 29)
  have n4 : (W0.alloc (.cells (#[.int .i64 0, .int .i64 0, .int .i64 0, .int .i64 0, .int .i64 0] : Array Value) 29)).heap[W0.heap.size]? = some (.cells (#[.int .i64 0, .int .i64 0, .int .i64 0, .int .i64 0, .int .i64 0] : Array Value) 29 (0, 0)) := heap_alloc_new W0 _
  obtain ⟨z, hz⟩ : ∃ z, z = W0.heap.size := ⟨_, rfl⟩
  obtain ⟨W4, hW4⟩ : ∃ W4, W4 = W0.alloc (.cells (#[.int .i64 0, .int .i64 0, .int .i64 0, .int .i64 0, .int .i64 0] : Array Value) 29) := ⟨_, rfl⟩
  rw [← hW4] at b4 n4
  rw [← hz] at n4
  rw [← hW4, ← hz]
  replace R := Lib.hid (bel_keep b4 R.out)
  replace B := Lib.hid (B.out.trans (b4.mono B.out.size))
  obtain ⟨y0, y1, y2, y3, y4⟩ : W4.cell? ⟨z, 0, none⟩ = some (.int .i64 0) ∧ W4.cell? ⟨z, 1, none⟩ = some (.int .i64 0) ∧ W4.cell? ⟨z, 2, none⟩ = some (.int .i64 0) ∧ W4.cell? ⟨z, 3, none⟩ = some (.int .i64 0) ∧ W4.cell? ⟨z, 4, none⟩ = some (.int .i64 0) := ⟨bk_cell n4 0, bk_cell n4 1, bk_cell n4 2, bk_cell n4 3, bk_cell n4 4⟩
  clear hW4 hz b4 n4
  obtain ⟨c0, c1, c2, c3, c4, c5, c6, c7, c8, c9, c10, c11, c12, c13⟩ := see_block14 R.out
  go_wp2_with fail
  go_ret
  exact ⟨rfl, B.out⟩
set_option maxRecDepth 100000 in
set_option maxHeartbeats 8000000 in
theorem dchk17_9 (SN SS : ByteArray) (o a K M D A C K2 M2 D2 A2 C2 : Int) (F : Int) (ts : ((SS.size : Int) == 0) = false) (tp : 0 < SS.size) (u0 : decide (o < -89999) = true) (w : World)
    (HN : Hid (∀ w, Calls Tryz.prog 14 #[.string SN] w fun x w' => x = .returned (.bool true) ∧ w = w'))
    (HS : Hid (∀ w, Calls Tryz.prog 14 #[.string SS] w fun x w' => x = .returned (.bool true) ∧ w = w'))
    : Calls Tryz.prog 6 #[.agg #[.string SN, .string SS, .int .i64 o, .int .i64 a, .int .i64 K, .int .i64 M, .int .i64 D, .int .i64 A, .int .i64 C, .int .i64 K2, .int .i64 M2, .int .i64 D2, .int .i64 A2, .int .i64 C2]] w fun x w' => x = .returned (.int .i64 1) ∧ Below w.heap.size w w' := by
  have eB := eq_dru0 K M D A C
  have eE := eq_dru0 K2 M2 D2 A2 C2
  obtain ⟨W0, hW0⟩ : ∃ W0, W0 = w.alloc (.cells #[.string SN, .string SS, .int .i64 o, .int .i64 a, .int .i64 K, .int .i64 M, .int .i64 D, .int .i64 A, .int .i64 C, .int .i64 K2, .int .i64 M2, .int .i64 D2, .int .i64 A2, .int .i64 C2] 31) := ⟨_, rfl⟩
  have b0 : Below w.heap.size w W0 := by rw [hW0]; exact bel16 w _
  have L0 : W0.heap[w.heap.size]? = some (.cells #[.string SN, .string SS, .int .i64 o, .int .i64 a, .int .i64 K, .int .i64 M, .int .i64 D, .int .i64 A, .int .i64 C, .int .i64 K2, .int .i64 M2, .int .i64 D2, .int .i64 A2, .int .i64 C2] 31 (0, 0)) := by rw [hW0]; exact heap_alloc_new w _
  have B := Lib.hid b0
  have R := Lib.hid L0
  obtain ⟨c0, c1, c2, c3, c4, c5, c6, c7, c8, c9, c10, c11, c12, c13⟩ := see_block14 L0
  clear b0 L0
  go_enter Tryz.func6, Tryz.ntmps6
  go_upto_region 1 with fail
  rw [← hW0]; clear hW0
  go_upto_region 4 with (first
    | (go_at_call 14; with_reducible refine (HN.out _).mono ?_; rintro x w1 ⟨rfl, rfl⟩))
  have b4 := bel16 W0 (.cells (#[.int .i64 0, .int .i64 0, .int .i64 0, .int .i64 0, .int .i64 0] : Array Value) 29)
  have n4 : (W0.alloc (.cells (#[.int .i64 0, .int .i64 0, .int .i64 0, .int .i64 0, .int .i64 0] : Array Value) 29)).heap[W0.heap.size]? = some (.cells (#[.int .i64 0, .int .i64 0, .int .i64 0, .int .i64 0, .int .i64 0] : Array Value) 29 (0, 0)) := heap_alloc_new W0 _
  obtain ⟨z, hz⟩ : ∃ z, z = W0.heap.size := ⟨_, rfl⟩
  obtain ⟨W4, hW4⟩ : ∃ W4, W4 = W0.alloc (.cells (#[.int .i64 0, .int .i64 0, .int .i64 0, .int .i64 0, .int .i64 0] : Array Value) 29) := ⟨_, rfl⟩
  rw [← hW4] at b4 n4
  rw [← hz] at n4
  rw [← hW4, ← hz]
  replace R := Lib.hid (bel_keep b4 R.out)
  replace B := Lib.hid (B.out.trans (b4.mono B.out.size))
  obtain ⟨y0, y1, y2, y3, y4⟩ : W4.cell? ⟨z, 0, none⟩ = some (.int .i64 0) ∧ W4.cell? ⟨z, 1, none⟩ = some (.int .i64 0) ∧ W4.cell? ⟨z, 2, none⟩ = some (.int .i64 0) ∧ W4.cell? ⟨z, 3, none⟩ = some (.int .i64 0) ∧ W4.cell? ⟨z, 4, none⟩ = some (.int .i64 0) := ⟨bk_cell n4 0, bk_cell n4 1, bk_cell n4 2, bk_cell n4 3, bk_cell n4 4⟩
  clear hW4 hz b4 n4
  obtain ⟨c0, c1, c2, c3, c4, c5, c6, c7, c8, c9, c10, c11, c12, c13⟩ := see_block14 R.out
  go_wp2_with (first
    | (go_at_call 14; with_reducible refine (HS.out _).mono ?_; rintro x w2 ⟨rfl, rfl⟩))
  go_ret
  exact ⟨rfl, B.out⟩
set_option maxRecDepth 100000 in
set_option maxHeartbeats 8000000 in
theorem dchk17_a (SN SS : ByteArray) (o a K M D A C K2 M2 D2 A2 C2 : Int) (F : Int) (ts : ((SS.size : Int) == 0) = false) (tp : 0 < SS.size) (u0 : decide (o < -89999) = false) (u1 : decide (89999 < o) = true) (w : World)
    (HN : Hid (∀ w, Calls Tryz.prog 14 #[.string SN] w fun x w' => x = .returned (.bool true) ∧ w = w'))
    (HS : Hid (∀ w, Calls Tryz.prog 14 #[.string SS] w fun x w' => x = .returned (.bool true) ∧ w = w'))
    : Calls Tryz.prog 6 #[.agg #[.string SN, .string SS, .int .i64 o, .int .i64 a, .int .i64 K, .int .i64 M, .int .i64 D, .int .i64 A, .int .i64 C, .int .i64 K2, .int .i64 M2, .int .i64 D2, .int .i64 A2, .int .i64 C2]] w fun x w' => x = .returned (.int .i64 1) ∧ Below w.heap.size w w' := by
  have eB := eq_dru0 K M D A C
  have eE := eq_dru0 K2 M2 D2 A2 C2
  obtain ⟨W0, hW0⟩ : ∃ W0, W0 = w.alloc (.cells #[.string SN, .string SS, .int .i64 o, .int .i64 a, .int .i64 K, .int .i64 M, .int .i64 D, .int .i64 A, .int .i64 C, .int .i64 K2, .int .i64 M2, .int .i64 D2, .int .i64 A2, .int .i64 C2] 31) := ⟨_, rfl⟩
  have b0 : Below w.heap.size w W0 := by rw [hW0]; exact bel16 w _
  have L0 : W0.heap[w.heap.size]? = some (.cells #[.string SN, .string SS, .int .i64 o, .int .i64 a, .int .i64 K, .int .i64 M, .int .i64 D, .int .i64 A, .int .i64 C, .int .i64 K2, .int .i64 M2, .int .i64 D2, .int .i64 A2, .int .i64 C2] 31 (0, 0)) := by rw [hW0]; exact heap_alloc_new w _
  have B := Lib.hid b0
  have R := Lib.hid L0
  obtain ⟨c0, c1, c2, c3, c4, c5, c6, c7, c8, c9, c10, c11, c12, c13⟩ := see_block14 L0
  clear b0 L0
  go_enter Tryz.func6, Tryz.ntmps6
  go_upto_region 1 with fail
  rw [← hW0]; clear hW0
  go_upto_region 4 with (first
    | (go_at_call 14; with_reducible refine (HN.out _).mono ?_; rintro x w1 ⟨rfl, rfl⟩))
  have b4 := bel16 W0 (.cells (#[.int .i64 0, .int .i64 0, .int .i64 0, .int .i64 0, .int .i64 0] : Array Value) 29)
  have n4 : (W0.alloc (.cells (#[.int .i64 0, .int .i64 0, .int .i64 0, .int .i64 0, .int .i64 0] : Array Value) 29)).heap[W0.heap.size]? = some (.cells (#[.int .i64 0, .int .i64 0, .int .i64 0, .int .i64 0, .int .i64 0] : Array Value) 29 (0, 0)) := heap_alloc_new W0 _
  obtain ⟨z, hz⟩ : ∃ z, z = W0.heap.size := ⟨_, rfl⟩
  obtain ⟨W4, hW4⟩ : ∃ W4, W4 = W0.alloc (.cells (#[.int .i64 0, .int .i64 0, .int .i64 0, .int .i64 0, .int .i64 0] : Array Value) 29) := ⟨_, rfl⟩
  rw [← hW4] at b4 n4
  rw [← hz] at n4
  rw [← hW4, ← hz]
  replace R := Lib.hid (bel_keep b4 R.out)
  replace B := Lib.hid (B.out.trans (b4.mono B.out.size))
  obtain ⟨y0, y1, y2, y3, y4⟩ : W4.cell? ⟨z, 0, none⟩ = some (.int .i64 0) ∧ W4.cell? ⟨z, 1, none⟩ = some (.int .i64 0) ∧ W4.cell? ⟨z, 2, none⟩ = some (.int .i64 0) ∧ W4.cell? ⟨z, 3, none⟩ = some (.int .i64 0) ∧ W4.cell? ⟨z, 4, none⟩ = some (.int .i64 0) := ⟨bk_cell n4 0, bk_cell n4 1, bk_cell n4 2, bk_cell n4 3, bk_cell n4 4⟩
  clear hW4 hz b4 n4
  obtain ⟨c0, c1, c2, c3, c4, c5, c6, c7, c8, c9, c10, c11, c12, c13⟩ := see_block14 R.out
  go_wp2_with (first
    | (go_at_call 14; with_reducible refine (HS.out _).mono ?_; rintro x w2 ⟨rfl, rfl⟩))
  go_ret
  exact ⟨rfl, B.out⟩
set_option maxRecDepth 100000 in
set_option maxHeartbeats 8000000 in
theorem dchk17_b (SN SS : ByteArray) (o a K M D A C K2 M2 D2 A2 C2 : Int) (F : Int) (ts : ((SS.size : Int) == 0) = false) (tp : 0 < SS.size) (u0 : decide (o < -89999) = false) (u1 : decide (89999 < o) = false) (u2 : decide (a < -89999) = true) (w : World)
    (HN : Hid (∀ w, Calls Tryz.prog 14 #[.string SN] w fun x w' => x = .returned (.bool true) ∧ w = w'))
    (HS : Hid (∀ w, Calls Tryz.prog 14 #[.string SS] w fun x w' => x = .returned (.bool true) ∧ w = w'))
    : Calls Tryz.prog 6 #[.agg #[.string SN, .string SS, .int .i64 o, .int .i64 a, .int .i64 K, .int .i64 M, .int .i64 D, .int .i64 A, .int .i64 C, .int .i64 K2, .int .i64 M2, .int .i64 D2, .int .i64 A2, .int .i64 C2]] w fun x w' => x = .returned (.int .i64 1) ∧ Below w.heap.size w w' := by
  have eB := eq_dru0 K M D A C
  have eE := eq_dru0 K2 M2 D2 A2 C2
  obtain ⟨W0, hW0⟩ : ∃ W0, W0 = w.alloc (.cells #[.string SN, .string SS, .int .i64 o, .int .i64 a, .int .i64 K, .int .i64 M, .int .i64 D, .int .i64 A, .int .i64 C, .int .i64 K2, .int .i64 M2, .int .i64 D2, .int .i64 A2, .int .i64 C2] 31) := ⟨_, rfl⟩
  have b0 : Below w.heap.size w W0 := by rw [hW0]; exact bel16 w _
  have L0 : W0.heap[w.heap.size]? = some (.cells #[.string SN, .string SS, .int .i64 o, .int .i64 a, .int .i64 K, .int .i64 M, .int .i64 D, .int .i64 A, .int .i64 C, .int .i64 K2, .int .i64 M2, .int .i64 D2, .int .i64 A2, .int .i64 C2] 31 (0, 0)) := by rw [hW0]; exact heap_alloc_new w _
  have B := Lib.hid b0
  have R := Lib.hid L0
  obtain ⟨c0, c1, c2, c3, c4, c5, c6, c7, c8, c9, c10, c11, c12, c13⟩ := see_block14 L0
  clear b0 L0
  go_enter Tryz.func6, Tryz.ntmps6
  go_upto_region 1 with fail
  rw [← hW0]; clear hW0
  go_upto_region 4 with (first
    | (go_at_call 14; with_reducible refine (HN.out _).mono ?_; rintro x w1 ⟨rfl, rfl⟩))
  have b4 := bel16 W0 (.cells (#[.int .i64 0, .int .i64 0, .int .i64 0, .int .i64 0, .int .i64 0] : Array Value) 29)
  have n4 : (W0.alloc (.cells (#[.int .i64 0, .int .i64 0, .int .i64 0, .int .i64 0, .int .i64 0] : Array Value) 29)).heap[W0.heap.size]? = some (.cells (#[.int .i64 0, .int .i64 0, .int .i64 0, .int .i64 0, .int .i64 0] : Array Value) 29 (0, 0)) := heap_alloc_new W0 _
  obtain ⟨z, hz⟩ : ∃ z, z = W0.heap.size := ⟨_, rfl⟩
  obtain ⟨W4, hW4⟩ : ∃ W4, W4 = W0.alloc (.cells (#[.int .i64 0, .int .i64 0, .int .i64 0, .int .i64 0, .int .i64 0] : Array Value) 29) := ⟨_, rfl⟩
  rw [← hW4] at b4 n4
  rw [← hz] at n4
  rw [← hW4, ← hz]
  replace R := Lib.hid (bel_keep b4 R.out)
  replace B := Lib.hid (B.out.trans (b4.mono B.out.size))
  obtain ⟨y0, y1, y2, y3, y4⟩ : W4.cell? ⟨z, 0, none⟩ = some (.int .i64 0) ∧ W4.cell? ⟨z, 1, none⟩ = some (.int .i64 0) ∧ W4.cell? ⟨z, 2, none⟩ = some (.int .i64 0) ∧ W4.cell? ⟨z, 3, none⟩ = some (.int .i64 0) ∧ W4.cell? ⟨z, 4, none⟩ = some (.int .i64 0) := ⟨bk_cell n4 0, bk_cell n4 1, bk_cell n4 2, bk_cell n4 3, bk_cell n4 4⟩
  clear hW4 hz b4 n4
  obtain ⟨c0, c1, c2, c3, c4, c5, c6, c7, c8, c9, c10, c11, c12, c13⟩ := see_block14 R.out
  go_wp2_with (first
    | (go_at_call 14; with_reducible refine (HS.out _).mono ?_; rintro x w2 ⟨rfl, rfl⟩))
  go_ret
  exact ⟨rfl, B.out⟩
set_option maxRecDepth 100000 in
set_option maxHeartbeats 8000000 in
theorem dchk17_c (SN SS : ByteArray) (o a K M D A C K2 M2 D2 A2 C2 : Int) (F : Int) (ts : ((SS.size : Int) == 0) = false) (tp : 0 < SS.size) (u0 : decide (o < -89999) = false) (u1 : decide (89999 < o) = false) (u2 : decide (a < -89999) = false) (u3 : decide (89999 < a) = true) (w : World)
    (HN : Hid (∀ w, Calls Tryz.prog 14 #[.string SN] w fun x w' => x = .returned (.bool true) ∧ w = w'))
    (HS : Hid (∀ w, Calls Tryz.prog 14 #[.string SS] w fun x w' => x = .returned (.bool true) ∧ w = w'))
    : Calls Tryz.prog 6 #[.agg #[.string SN, .string SS, .int .i64 o, .int .i64 a, .int .i64 K, .int .i64 M, .int .i64 D, .int .i64 A, .int .i64 C, .int .i64 K2, .int .i64 M2, .int .i64 D2, .int .i64 A2, .int .i64 C2]] w fun x w' => x = .returned (.int .i64 1) ∧ Below w.heap.size w w' := by
  have eB := eq_dru0 K M D A C
  have eE := eq_dru0 K2 M2 D2 A2 C2
  obtain ⟨W0, hW0⟩ : ∃ W0, W0 = w.alloc (.cells #[.string SN, .string SS, .int .i64 o, .int .i64 a, .int .i64 K, .int .i64 M, .int .i64 D, .int .i64 A, .int .i64 C, .int .i64 K2, .int .i64 M2, .int .i64 D2, .int .i64 A2, .int .i64 C2] 31) := ⟨_, rfl⟩
  have b0 : Below w.heap.size w W0 := by rw [hW0]; exact bel16 w _
  have L0 : W0.heap[w.heap.size]? = some (.cells #[.string SN, .string SS, .int .i64 o, .int .i64 a, .int .i64 K, .int .i64 M, .int .i64 D, .int .i64 A, .int .i64 C, .int .i64 K2, .int .i64 M2, .int .i64 D2, .int .i64 A2, .int .i64 C2] 31 (0, 0)) := by rw [hW0]; exact heap_alloc_new w _
  have B := Lib.hid b0
  have R := Lib.hid L0
  obtain ⟨c0, c1, c2, c3, c4, c5, c6, c7, c8, c9, c10, c11, c12, c13⟩ := see_block14 L0
  clear b0 L0
  go_enter Tryz.func6, Tryz.ntmps6
  go_upto_region 1 with fail
  rw [← hW0]; clear hW0
  go_upto_region 4 with (first
    | (go_at_call 14; with_reducible refine (HN.out _).mono ?_; rintro x w1 ⟨rfl, rfl⟩))
  have b4 := bel16 W0 (.cells (#[.int .i64 0, .int .i64 0, .int .i64 0, .int .i64 0, .int .i64 0] : Array Value) 29)
  have n4 : (W0.alloc (.cells (#[.int .i64 0, .int .i64 0, .int .i64 0, .int .i64 0, .int .i64 0] : Array Value) 29)).heap[W0.heap.size]? = some (.cells (#[.int .i64 0, .int .i64 0, .int .i64 0, .int .i64 0, .int .i64 0] : Array Value) 29 (0, 0)) := heap_alloc_new W0 _
  obtain ⟨z, hz⟩ : ∃ z, z = W0.heap.size := ⟨_, rfl⟩
  obtain ⟨W4, hW4⟩ : ∃ W4, W4 = W0.alloc (.cells (#[.int .i64 0, .int .i64 0, .int .i64 0, .int .i64 0, .int .i64 0] : Array Value) 29) := ⟨_, rfl⟩
  rw [← hW4] at b4 n4
  rw [← hz] at n4
  rw [← hW4, ← hz]
  replace R := Lib.hid (bel_keep b4 R.out)
  replace B := Lib.hid (B.out.trans (b4.mono B.out.size))
  obtain ⟨y0, y1, y2, y3, y4⟩ : W4.cell? ⟨z, 0, none⟩ = some (.int .i64 0) ∧ W4.cell? ⟨z, 1, none⟩ = some (.int .i64 0) ∧ W4.cell? ⟨z, 2, none⟩ = some (.int .i64 0) ∧ W4.cell? ⟨z, 3, none⟩ = some (.int .i64 0) ∧ W4.cell? ⟨z, 4, none⟩ = some (.int .i64 0) := ⟨bk_cell n4 0, bk_cell n4 1, bk_cell n4 2, bk_cell n4 3, bk_cell n4 4⟩
  clear hW4 hz b4 n4
  obtain ⟨c0, c1, c2, c3, c4, c5, c6, c7, c8, c9, c10, c11, c12, c13⟩ := see_block14 R.out
  go_wp2_with (first
    | (go_at_call 14; with_reducible refine (HS.out _).mono ?_; rintro x w2 ⟨rfl, rfl⟩))
  go_ret
  exact ⟨rfl, B.out⟩
set_option maxRecDepth 100000 in
set_option maxHeartbeats 8000000 in
theorem dchk17_d (SN SS : ByteArray) (o a K M D A C K2 M2 D2 A2 C2 : Int) (F : Int) (ts : ((SS.size : Int) == 0) = false) (tp : 0 < SS.size) (u0 : decide (o < -89999) = false) (u1 : decide (89999 < o) = false) (u2 : decide (a < -89999) = false) (u3 : decide (89999 < a) = false) (t9 : (F != 0) = true) (w : World)
    (HN : Hid (∀ w, Calls Tryz.prog 14 #[.string SN] w fun x w' => x = .returned (.bool true) ∧ w = w'))
    (HS : Hid (∀ w, Calls Tryz.prog 14 #[.string SS] w fun x w' => x = .returned (.bool true) ∧ w = w'))
    (HB : Hid (∀ w, Calls Tryz.prog 17 #[.agg #[.int .i64 K, .int .i64 M, .int .i64 D, .int .i64 A, .int .i64 C]] w fun x w' => x = .returned (.int .i64 F) ∧ Below w.heap.size w w'))
    : Calls Tryz.prog 6 #[.agg #[.string SN, .string SS, .int .i64 o, .int .i64 a, .int .i64 K, .int .i64 M, .int .i64 D, .int .i64 A, .int .i64 C, .int .i64 K2, .int .i64 M2, .int .i64 D2, .int .i64 A2, .int .i64 C2]] w fun x w' => x = .returned (.int .i64 F) ∧ Below w.heap.size w w' := by
  have eB := eq_dru0 K M D A C
  have eE := eq_dru0 K2 M2 D2 A2 C2
  obtain ⟨W0, hW0⟩ : ∃ W0, W0 = w.alloc (.cells #[.string SN, .string SS, .int .i64 o, .int .i64 a, .int .i64 K, .int .i64 M, .int .i64 D, .int .i64 A, .int .i64 C, .int .i64 K2, .int .i64 M2, .int .i64 D2, .int .i64 A2, .int .i64 C2] 31) := ⟨_, rfl⟩
  have b0 : Below w.heap.size w W0 := by rw [hW0]; exact bel16 w _
  have L0 : W0.heap[w.heap.size]? = some (.cells #[.string SN, .string SS, .int .i64 o, .int .i64 a, .int .i64 K, .int .i64 M, .int .i64 D, .int .i64 A, .int .i64 C, .int .i64 K2, .int .i64 M2, .int .i64 D2, .int .i64 A2, .int .i64 C2] 31 (0, 0)) := by rw [hW0]; exact heap_alloc_new w _
  have B := Lib.hid b0
  have R := Lib.hid L0
  obtain ⟨c0, c1, c2, c3, c4, c5, c6, c7, c8, c9, c10, c11, c12, c13⟩ := see_block14 L0
  clear b0 L0
  go_enter Tryz.func6, Tryz.ntmps6
  go_upto_region 1 with fail
  rw [← hW0]; clear hW0
  go_upto_region 4 with (first
    | (go_at_call 14; with_reducible refine (HN.out _).mono ?_; rintro x w1 ⟨rfl, rfl⟩))
  have b4 := bel16 W0 (.cells (#[.int .i64 0, .int .i64 0, .int .i64 0, .int .i64 0, .int .i64 0] : Array Value) 29)
  have n4 : (W0.alloc (.cells (#[.int .i64 0, .int .i64 0, .int .i64 0, .int .i64 0, .int .i64 0] : Array Value) 29)).heap[W0.heap.size]? = some (.cells (#[.int .i64 0, .int .i64 0, .int .i64 0, .int .i64 0, .int .i64 0] : Array Value) 29 (0, 0)) := heap_alloc_new W0 _
  obtain ⟨z, hz⟩ : ∃ z, z = W0.heap.size := ⟨_, rfl⟩
  obtain ⟨W4, hW4⟩ : ∃ W4, W4 = W0.alloc (.cells (#[.int .i64 0, .int .i64 0, .int .i64 0, .int .i64 0, .int .i64 0] : Array Value) 29) := ⟨_, rfl⟩
  rw [← hW4] at b4 n4
  rw [← hz] at n4
  rw [← hW4, ← hz]
  replace R := Lib.hid (bel_keep b4 R.out)
  replace B := Lib.hid (B.out.trans (b4.mono B.out.size))
  obtain ⟨y0, y1, y2, y3, y4⟩ : W4.cell? ⟨z, 0, none⟩ = some (.int .i64 0) ∧ W4.cell? ⟨z, 1, none⟩ = some (.int .i64 0) ∧ W4.cell? ⟨z, 2, none⟩ = some (.int .i64 0) ∧ W4.cell? ⟨z, 3, none⟩ = some (.int .i64 0) ∧ W4.cell? ⟨z, 4, none⟩ = some (.int .i64 0) := ⟨bk_cell n4 0, bk_cell n4 1, bk_cell n4 2, bk_cell n4 3, bk_cell n4 4⟩
  clear hW4 hz b4 n4
  obtain ⟨c0, c1, c2, c3, c4, c5, c6, c7, c8, c9, c10, c11, c12, c13⟩ := see_block14 R.out
  go_wp2_with (first
    | (go_at_call 14; with_reducible refine (HS.out _).mono ?_; rintro x w2 ⟨rfl, rfl⟩)
    | (go_at_call 17; with_reducible refine (HB.out _).mono ?_; rintro x w3 ⟨rfl, hb⟩; have R := Lib.hid (bel_keep hb R.out); have B := Lib.hid (B.out.trans (hb.mono B.out.size)); clear hb; obtain ⟨c0, c1, c2, c3, c4, c5, c6, c7, c8, c9, c10, c11, c12, c13⟩ := see_block14 R.out))
  go_ret
  exact ⟨rfl, B.out⟩
set_option maxRecDepth 100000 in
set_option maxHeartbeats 8000000 in
theorem dchk17_e (SN SS : ByteArray) (o a K M D A C K2 M2 D2 A2 C2 : Int) (F : Int) (ts : ((SS.size : Int) == 0) = false) (tp : 0 < SS.size) (u0 : decide (o < -89999) = false) (u1 : decide (89999 < o) = false) (u2 : decide (a < -89999) = false) (u3 : decide (89999 < a) = false) (w : World)
    (HN : Hid (∀ w, Calls Tryz.prog 14 #[.string SN] w fun x w' => x = .returned (.bool true) ∧ w = w'))
    (HS : Hid (∀ w, Calls Tryz.prog 14 #[.string SS] w fun x w' => x = .returned (.bool true) ∧ w = w'))
    (HB : Hid (∀ w, Calls Tryz.prog 17 #[.agg #[.int .i64 K, .int .i64 M, .int .i64 D, .int .i64 A, .int .i64 C]] w fun x w' => x = .returned (.int .i64 0) ∧ Below w.heap.size w w'))
    (HE : Hid (∀ w, Calls Tryz.prog 17 #[.agg #[.int .i64 K2, .int .i64 M2, .int .i64 D2, .int .i64 A2, .int .i64 C2]] w fun x w' => x = .returned (.int .i64 F) ∧ Below w.heap.size w w'))
    : Calls Tryz.prog 6 #[.agg #[.string SN, .string SS, .int .i64 o, .int .i64 a, .int .i64 K, .int .i64 M, .int .i64 D, .int .i64 A, .int .i64 C, .int .i64 K2, .int .i64 M2, .int .i64 D2, .int .i64 A2, .int .i64 C2]] w fun x w' => x = .returned (.int .i64 F) ∧ Below w.heap.size w w' := by
  have eB := eq_dru0 K M D A C
  have eE := eq_dru0 K2 M2 D2 A2 C2
  obtain ⟨W0, hW0⟩ : ∃ W0, W0 = w.alloc (.cells #[.string SN, .string SS, .int .i64 o, .int .i64 a, .int .i64 K, .int .i64 M, .int .i64 D, .int .i64 A, .int .i64 C, .int .i64 K2, .int .i64 M2, .int .i64 D2, .int .i64 A2, .int .i64 C2] 31) := ⟨_, rfl⟩
  have b0 : Below w.heap.size w W0 := by rw [hW0]; exact bel16 w _
  have L0 : W0.heap[w.heap.size]? = some (.cells #[.string SN, .string SS, .int .i64 o, .int .i64 a, .int .i64 K, .int .i64 M, .int .i64 D, .int .i64 A, .int .i64 C, .int .i64 K2, .int .i64 M2, .int .i64 D2, .int .i64 A2, .int .i64 C2] 31 (0, 0)) := by rw [hW0]; exact heap_alloc_new w _
  have B := Lib.hid b0
  have R := Lib.hid L0
  obtain ⟨c0, c1, c2, c3, c4, c5, c6, c7, c8, c9, c10, c11, c12, c13⟩ := see_block14 L0
  clear b0 L0
  go_enter Tryz.func6, Tryz.ntmps6
  go_upto_region 1 with fail
  rw [← hW0]; clear hW0
  go_upto_region 4 with (first
    | (go_at_call 14; with_reducible refine (HN.out _).mono ?_; rintro x w1 ⟨rfl, rfl⟩))
  have b4 := bel16 W0 (.cells (#[.int .i64 0, .int .i64 0, .int .i64 0, .int .i64 0, .int .i64 0] : Array Value) 29)
  have n4 : (W0.alloc (.cells (#[.int .i64 0, .int .i64 0, .int .i64 0, .int .i64 0, .int .i64 0] : Array Value) 29)).heap[W0.heap.size]? = some (.cells (#[.int .i64 0, .int .i64 0, .int .i64 0, .int .i64 0, .int .i64 0] : Array Value) 29 (0, 0)) := heap_alloc_new W0 _
  obtain ⟨z, hz⟩ : ∃ z, z = W0.heap.size := ⟨_, rfl⟩
  obtain ⟨W4, hW4⟩ : ∃ W4, W4 = W0.alloc (.cells (#[.int .i64 0, .int .i64 0, .int .i64 0, .int .i64 0, .int .i64 0] : Array Value) 29) := ⟨_, rfl⟩
  rw [← hW4] at b4 n4
  rw [← hz] at n4
  rw [← hW4, ← hz]
  replace R := Lib.hid (bel_keep b4 R.out)
  replace B := Lib.hid (B.out.trans (b4.mono B.out.size))
  obtain ⟨y0, y1, y2, y3, y4⟩ : W4.cell? ⟨z, 0, none⟩ = some (.int .i64 0) ∧ W4.cell? ⟨z, 1, none⟩ = some (.int .i64 0) ∧ W4.cell? ⟨z, 2, none⟩ = some (.int .i64 0) ∧ W4.cell? ⟨z, 3, none⟩ = some (.int .i64 0) ∧ W4.cell? ⟨z, 4, none⟩ = some (.int .i64 0) := ⟨bk_cell n4 0, bk_cell n4 1, bk_cell n4 2, bk_cell n4 3, bk_cell n4 4⟩
  clear hW4 hz b4 n4
  obtain ⟨c0, c1, c2, c3, c4, c5, c6, c7, c8, c9, c10, c11, c12, c13⟩ := see_block14 R.out
  go_wp2_with (first
    | (go_at_call 14; with_reducible refine (HS.out _).mono ?_; rintro x w2 ⟨rfl, rfl⟩)
    | (go_at_call 17; with_reducible refine (HB.out _).mono ?_; rintro x w3 ⟨rfl, hb⟩; have R := Lib.hid (bel_keep hb R.out); have B := Lib.hid (B.out.trans (hb.mono B.out.size)); clear hb; obtain ⟨c0, c1, c2, c3, c4, c5, c6, c7, c8, c9, c10, c11, c12, c13⟩ := see_block14 R.out)
    | (go_at_call 17; with_reducible refine (HE.out _).mono ?_; rintro x w4 ⟨rfl, hb⟩; have R := Lib.hid (bel_keep hb R.out); have B := Lib.hid (B.out.trans (hb.mono B.out.size)); clear hb; obtain ⟨c0, c1, c2, c3, c4, c5, c6, c7, c8, c9, c10, c11, c12, c13⟩ := see_block14 R.out))
  go_ret
  exact ⟨rfl, B.out⟩
theorem dcheck17_any (p : Pl) (w : World) (hn : p.N.length ≤ 100000) (hs : p.S.length ≤ 100000) :
    Calls Tryz.prog 6 #[.agg p.cells] w fun x w' => x = .returned (.int .i64 (plE p)) ∧ Below w.heap.size w w' := by
  have HN : ∀ (n : List UInt8), n.length ≤ 100000 → ∀ w, Calls Tryz.prog 14 #[.string ⟨n.toArray⟩] w fun x w' => x = .returned (.bool (nmP n)) ∧ w = w' := fun n hn w => by
    have := dname_any ⟨n.toArray⟩ w (by rw [Lib.size_mk]; exact hn)
    rwa [show (⟨n.toArray⟩ : ByteArray).data.toList = n by simp] at this
  have HS := HN p.S hs
  have HN := HN p.N hn
  have HB := fun w => rchk16_any p.B w
  have HE := fun w => rchk16_any p.E w
  have zS : (⟨p.S.toArray⟩ : ByteArray).size = p.S.length := Lib.size_mk _
  have u : plE p = if nmP p.N = true ∧ smP p then (if ofP p.O = true ∧ ofP p.A = true then (if p.S = [] then 0 else if ruE p.B ≠ 0 then ruE p.B else ruE p.E) else 1) else 2 := rfl
  cases n1 : nmP p.N with
  | false =>
    rw [u, if_neg (fun c => by rw [n1] at c; cases c.1)]
    rw [n1] at HN
    exact dchk17_1 _ _ _ _ _ _ _ _ _ _ _ _ _ _ 0 w (Lib.hid HN)
  | true =>
    rw [n1] at HN
    by_cases e : p.S = []
    · have us : smP p ↔ p.A = 0 ∧ ruZ p.B ∧ ruZ p.E := by unfold smP; rw [if_pos e]
      have l0 : p.S.length = 0 := by rw [e]; rfl
      have ts : (((⟨p.S.toArray⟩ : ByteArray).size : Int) == 0) = true := eq_yes (by omega)
      have tp : ¬ 0 < (⟨p.S.toArray⟩ : ByteArray).size := by omega
      by_cases a0 : p.A = 0
      · have t1 := ne_no a0
        by_cases b0 : ruZ p.B
        · by_cases e0 : ruZ p.E
          · rcases (by omega : p.O < -89999 ∨ (¬ p.O < -89999 ∧ 89999 < p.O) ∨ (¬ p.O < -89999 ∧ ¬ 89999 < p.O)) with h | ⟨h, h2⟩ | ⟨h, h2⟩
            · rw [u, if_pos ⟨n1, us.2 ⟨a0, b0, e0⟩⟩, if_neg (fun c => by have := ofP_yes.1 c.1; omega)]
              exact dchk17_6 _ _ _ _ _ _ _ _ _ _ _ _ _ _ 0 ts tp t1 (decide_eq_true b0) (decide_eq_true e0) (decide_eq_true h) w (Lib.hid HN)
            · rw [u, if_pos ⟨n1, us.2 ⟨a0, b0, e0⟩⟩, if_neg (fun c => by have := ofP_yes.1 c.1; omega)]
              exact dchk17_7 _ _ _ _ _ _ _ _ _ _ _ _ _ _ 0 ts tp t1 (decide_eq_true b0) (decide_eq_true e0) (decide_eq_false h) (decide_eq_true h2) w (Lib.hid HN)
            · rw [u, if_pos ⟨n1, us.2 ⟨a0, b0, e0⟩⟩, if_pos ⟨ofP_yes.2 (by omega), ofP_yes.2 (by omega)⟩, if_pos e]
              exact dchk17_8 _ _ _ _ _ _ _ _ _ _ _ _ _ _ 0 ts tp t1 (decide_eq_true b0) (decide_eq_true e0) (decide_eq_false h) (decide_eq_false h2) (decide_eq_false (by omega)) (decide_eq_false (by omega)) w (Lib.hid HN)
          · rw [u, if_neg (fun c => e0 (us.1 c.2).2.2)]
            exact dchk17_4 _ _ _ _ _ _ _ _ _ _ _ _ _ _ 0 ts tp t1 (decide_eq_true b0) (decide_eq_false e0) w (Lib.hid HN)
        · rw [u, if_neg (fun c => b0 (us.1 c.2).2.1)]
          exact dchk17_3 _ _ _ _ _ _ _ _ _ _ _ _ _ _ 0 ts tp t1 (decide_eq_false b0) w (Lib.hid HN)
      · rw [u, if_neg (fun c => a0 (us.1 c.2).1)]
        exact dchk17_2 _ _ _ _ _ _ _ _ _ _ _ _ _ _ 0 ts tp (ne_yes a0) w (Lib.hid HN)
    · have us : smP p ↔ nmP p.S = true := by unfold smP; rw [if_neg e]
      have l0 : 0 < p.S.length := List.length_pos_iff.2 e
      have ts : (((⟨p.S.toArray⟩ : ByteArray).size : Int) == 0) = false := eq_no (by omega)
      have tp : 0 < (⟨p.S.toArray⟩ : ByteArray).size := by omega
      cases n2 : nmP p.S with
      | false =>
        rw [u, if_neg (fun c => by have := us.1 c.2; rw [n2] at this; cases this)]
        rw [n2] at HS
        exact dchk17_5 _ _ _ _ _ _ _ _ _ _ _ _ _ _ 0 ts tp w (Lib.hid HN) (Lib.hid HS)
      | true =>
        rw [n2] at HS
        rw [u, if_pos ⟨n1, us.2 n2⟩]
        rcases (by omega : p.O < -89999 ∨ (¬ p.O < -89999 ∧ 89999 < p.O) ∨ (¬ p.O < -89999 ∧ ¬ 89999 < p.O ∧ p.A < -89999) ∨ (¬ p.O < -89999 ∧ ¬ 89999 < p.O ∧ ¬ p.A < -89999 ∧ 89999 < p.A) ∨ (¬ p.O < -89999 ∧ ¬ 89999 < p.O ∧ ¬ p.A < -89999 ∧ ¬ 89999 < p.A)) with h | ⟨h, h2⟩ | ⟨h, h2, h3⟩ | ⟨h, h2, h3, h4⟩ | ⟨h, h2, h3, h4⟩
        · rw [if_neg (fun c => by have := ofP_yes.1 c.1; omega)]
          exact dchk17_9 _ _ _ _ _ _ _ _ _ _ _ _ _ _ 0 ts tp (decide_eq_true h) w (Lib.hid HN) (Lib.hid HS)
        · rw [if_neg (fun c => by have := ofP_yes.1 c.1; omega)]
          exact dchk17_a _ _ _ _ _ _ _ _ _ _ _ _ _ _ 0 ts tp (decide_eq_false h) (decide_eq_true h2) w (Lib.hid HN) (Lib.hid HS)
        · rw [if_neg (fun c => by have := ofP_yes.1 c.2; omega)]
          exact dchk17_b _ _ _ _ _ _ _ _ _ _ _ _ _ _ 0 ts tp (decide_eq_false h) (decide_eq_false h2) (decide_eq_true h3) w (Lib.hid HN) (Lib.hid HS)
        · rw [if_neg (fun c => by have := ofP_yes.1 c.2; omega)]
          exact dchk17_c _ _ _ _ _ _ _ _ _ _ _ _ _ _ 0 ts tp (decide_eq_false h) (decide_eq_false h2) (decide_eq_false h3) (decide_eq_true h4) w (Lib.hid HN) (Lib.hid HS)
        · rw [if_pos ⟨ofP_yes.2 (by omega), ofP_yes.2 (by omega)⟩, if_neg e]
          by_cases b0 : ruE p.B = 0
          · rw [if_neg (fun c => c b0)]
            rw [b0] at HB
            exact dchk17_e _ _ _ _ _ _ _ _ _ _ _ _ _ _ _ ts tp (decide_eq_false h) (decide_eq_false h2) (decide_eq_false h3) (decide_eq_false h4) w (Lib.hid HN) (Lib.hid HS) (Lib.hid HB) (Lib.hid HE)
          · rw [if_pos b0]
            exact dchk17_d _ _ _ _ _ _ _ _ _ _ _ _ _ _ _ ts tp (decide_eq_false h) (decide_eq_false h2) (decide_eq_false h3) (decide_eq_false h4) (ne_yes b0) w (Lib.hid HN) (Lib.hid HS) (Lib.hid HB)
end Go.Proofs.YtkhcneacjnpcnaaGreatDoor
