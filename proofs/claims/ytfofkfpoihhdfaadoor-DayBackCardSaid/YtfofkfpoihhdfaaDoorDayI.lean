/- The statement DayBack. -/
import Derived.Test.YtfofkfpoihhdfaaDoorDayH
import Derived.RangeFuncRecord
import Derived.Laws.StructEq
import Derived.Laws.Tables
import Derived.Laws.Cover2
namespace Go.Proofs.YtfofkfpoihhdfaaDoor
open Go.RowKit
set_option linter.unusedVariables false

/-- Three integers are themselves. -/
theorem eq_three (a b c : Int) (w : World) : (Op.equalIn 10000 51 (.agg #[.int .i64 a, .int .i64 b, .int .i64 c]) (.agg #[.int .i64 a, .int .i64 b, .int .i64 c])).run Tryd.prog w = .ok true w := by
  have u3 := Tryd.underlying3
  have a3 := Tryd.isAgg3
  have z3 := Tryd.sizeOf3
  rw [show (10000 : Nat) = 9999 + 1 from rfl, Op.equalIn]
  simp only [Sem.run_bind, run_underlying Tryd.underlying51, Result.andThen_ok]
  simp only [Std.Legacy.Range.forIn_eq_forIn_range', Std.Legacy.Range.size, Nat.sub_zero, Nat.add_sub_cancel, Nat.div_one, List.range'_succ, List.range'_zero, List.forIn_cons, List.forIn_nil]
  go_simp
  try simp

/-- A block of three cells, kept over what leaves all below as it was. -/
theorem three_cells {W0 w1 : World} {b : Nat} {x y z : Value} {T : TypeId} (h : W0.heap[b]? = some (.cells #[x, y, z] T (0, 0))) (hb : b < W0.heap.size) (hB : Below W0.heap.size W0 w1) :
    w1.cell? ⟨b, 0, none⟩ = some x ∧ w1.cell? ⟨b, 1, none⟩ = some y ∧ w1.cell? ⟨b, 2, none⟩ = some z := by
  have k : ∀ i v, W0.cell? ⟨b, i, none⟩ = some v → w1.cell? ⟨b, i, none⟩ = some v := fun i v e => (hB.cell (p := ⟨b, i, none⟩) hb).trans e
  exact ⟨k 0 x (by simp [World.cell?, h]), k 1 y (by simp [World.cell?, h]), k 2 z (by simp [World.cell?, h])⟩

set_option maxRecDepth 100000 in
set_option maxHeartbeats 4000000 in
theorem follows_any (n y m d : Int) (w : World) (he : Ends w) (D : Dt n y m d) (hn : n < 2932896) :
    Calls Tryd.prog 33 #[.agg #[.int .i64 y, .int .i64 m, .int .i64 d], .int .i64 (n + 1)] w fun e w' => e = .returned (.bool true) ∧ Below w.heap.size w w' := by
  have q0 := fun op t W x k => guard_ev op t W x k
  have q2 := fun W k => neq_ev W k
  have D2 := dt_next D hn
  have hD := Lib.hid (fun w he => date_some (n + 1) _ _ _ w D2 he)
  have hM := Lib.hid (fun w he => month_any y m w he)
  obtain ⟨hy, m1, m2, d1, d2, hnn⟩ := D
  clear hnn
  have hm0 : ckm y m = 0 := by unfold ckm; rw [if_pos hy, if_neg (by omega)]
  rw [hm0, show mlR y m = ml y m by unfold mlR; rw [hm0]; rfl] at hM
  have lb := ml_bd y m1 m2
  unfold isy at hy
  clear D2 hm0
  obtain ⟨W0, hW0⟩ : ∃ W0, W0 = w.alloc (.cells #[.int .i64 y, .int .i64 m, .int .i64 d] 51) := ⟨_, rfl⟩
  have hB0 : Below w.heap.size w W0 := by rw [hW0]; exact (Below.refl _ w).alloc (Nat.le_refl _) _
  have B0 := Lib.hid hB0
  have E0 := Lib.hid (he.below hB0)
  have hc : W0.heap[w.heap.size]? = some (.cells #[.int .i64 y, .int .i64 m, .int .i64 d] 51 (0, 0)) := by rw [hW0]; exact World.alloc_heap_new w _
  have hs : w.heap.size < W0.heap.size := by rw [hW0]; simp
  have HC := Lib.hid hc
  have HS := Lib.hid hs
  clear hc hs hB0 he
  generalize ml y m = l at *
  go_enter Tryd.func33, Tryd.ntmps33
  go_wp2_with fail
  rw [← hW0]
  refine (hD.out _ E0.out).mono ?_
  rintro e w1 ⟨rfl, hb⟩
  have B1 := Lib.hid (B0.out.trans (hb.mono B0.out.size))
  have E1 := Lib.hid (E0.out.below hb)
  obtain ⟨k0, k1, k2⟩ := three_cells HC.out HS.out hb
  clear hb hW0
  by_cases c : d < l
  · simp only [c, if_true]
    go_wp2_with (go_at_call 15; refine (hM.out _ E1.out).mono ?_; rintro e w' ⟨rfl, rfl⟩)
    go_ret
    exact ⟨rfl, B1.out⟩
  · by_cases c2 : m < 12
    · simp only [c, c2, if_true, if_false]
      go_wp2_with (go_at_call 15; refine (hM.out _ E1.out).mono ?_; rintro e w' ⟨rfl, rfl⟩)
      go_ret
      exact ⟨rfl, B1.out⟩
    · simp only [c, c2, if_false]
      go_wp2_with (go_at_call 15; refine (hM.out _ E1.out).mono ?_; rintro e w' ⟨rfl, rfl⟩)
      go_ret
      exact ⟨rfl, B1.out⟩

set_option maxRecDepth 100000 in
set_option maxHeartbeats 4000000 in
theorem back_walk (n a b c : Int) (w : World) (he : Ends w) (hn : -9223372036854775808 ≤ n ∧ n ≤ 9223372036854775807) :
    Calls Tryd.prog 6 #[.int .i64 n, .agg #[.int .i64 a, .int .i64 b, .int .i64 c]] w fun e w' => e = .returned (.bool true) ∧ Below w.heap.size w w' := by
  have hA := Lib.hid (fun w he => alive_any w he)
  have q0 := fun op t W x k => guard_ev op t W x k
  have q1 := fun W k => eql_ev W k
  have q2 := fun W k => neq_ev W k
  obtain ⟨W0, hW0⟩ : ∃ W0, W0 = w.alloc (.cells #[.int .i64 a, .int .i64 b, .int .i64 c] 51) := ⟨_, rfl⟩
  have hB0 : Below w.heap.size w W0 := by rw [hW0]; exact (Below.refl _ w).alloc (Nat.le_refl _) _
  have B0 := Lib.hid hB0
  have E0 := Lib.hid (he.below hB0)
  have hc : W0.heap[w.heap.size]? = some (.cells #[.int .i64 a, .int .i64 b, .int .i64 c] 51 (0, 0)) := by rw [hW0]; exact World.alloc_heap_new w _
  have hs : w.heap.size < W0.heap.size := by rw [hW0]; simp
  have HC := Lib.hid hc
  have HS := Lib.hid hs
  clear hc hs hB0 he
  have eq3 := fun w => eq_three a b c w
  have hL := fun w => last_any w
  have hO := Lib.hid (fun w he => of_any a b c w he)
  by_cases g : n < -4371587 ∨ 2932896 < n
  · have hD := Lib.hid (fun w => date_none n w g)
    clear g
    by_cases f : ckd a b c = 0
    · have D := ckd_dt f
      have hD2 := Lib.hid (fun w he => date_some _ _ _ _ w D he)
      rw [f] at hO
      clear D f
      generalize ofR a b c = r at *
      go_enter Tryd.func6, Tryd.ntmps6
      go_wp2_with fail
      rw [← hW0]
      clear hW0
      refine (hA.out _ E0.out).mono ?_
      rintro e w' ⟨rfl, rfl⟩
      go_wp2_with fail
      refine (hD.out _).mono ?_
      rintro e w' ⟨rfl, rfl⟩
      obtain ⟨k0, k1, k2⟩ := three_cells HC.out HS.out (Below.refl _ _)
      have B1 := B0
      have E1 := E0
      have X1 : Hid (Below W0.heap.size W0 W0) := Lib.hid (Below.refl _ _)
      go_wp2_with fail
      refine (hO.out _ E1.out).mono ?_
      rintro e w' ⟨rfl, rfl⟩
      go_wp2_with fail
      refine (hD2.out _ E1.out).mono ?_
      rintro e w3 ⟨rfl, hb⟩
      have B3 := Lib.hid (B1.out.trans (hb.mono B1.out.size))
      obtain ⟨j0, j1, j2⟩ := three_cells HC.out HS.out (X1.out.trans (hb.mono X1.out.size))
      clear hb
      go_wp2_with fail
      go_ret
      exact ⟨rfl, B3.out⟩
    · have f' := ne_z f
      clear f
      generalize ofR a b c = r at *
      generalize ckd a b c = k at *
      go_enter Tryd.func6, Tryd.ntmps6
      go_wp2_with fail
      rw [← hW0]
      clear hW0
      refine (hA.out _ E0.out).mono ?_
      rintro e w' ⟨rfl, rfl⟩
      go_wp2_with fail
      refine (hD.out _).mono ?_
      rintro e w' ⟨rfl, rfl⟩
      obtain ⟨k0, k1, k2⟩ := three_cells HC.out HS.out (Below.refl _ _)
      have B1 := B0
      have E1 := E0
      have X1 : Hid (Below W0.heap.size W0 W0) := Lib.hid (Below.refl _ _)
      go_wp2_with fail
      refine (hO.out _ E1.out).mono ?_
      rintro e w' ⟨rfl, rfl⟩
      go_wp2_with fail
      go_ret
      exact ⟨rfl, B1.out⟩
  · obtain ⟨y, m, d, D⟩ := dt_some (n := n) (by omega) (by omega)
    have hD := Lib.hid (fun w he => date_some n y m d w D he)
    have hP := Lib.hid (fun w he => of_any y m d w he)
    obtain ⟨p1, p2⟩ := dt_ckd D
    rw [p1, p2] at hP
    clear p1 p2
    by_cases l : n < 2932896
    · have hFo := Lib.hid (fun w he => follows_any n y m d w he D l)
      clear D g
      by_cases f : ckd a b c = 0
      · have D := ckd_dt f
        have hD2 := Lib.hid (fun w he => date_some _ _ _ _ w D he)
        rw [f] at hO
        clear D f
        generalize ofR a b c = r at *
        go_enter Tryd.func6, Tryd.ntmps6
        go_wp2_with fail
        rw [← hW0]
        clear hW0
        refine (hA.out _ E0.out).mono ?_
        rintro e w' ⟨rfl, rfl⟩
        go_wp2_with fail
        refine (hD.out _ E0.out).mono ?_
        rintro e w1 ⟨rfl, hb⟩
        have B1 := Lib.hid (B0.out.trans (hb.mono B0.out.size))
        have E1 := Lib.hid (E0.out.below hb)
        have X1 := Lib.hid hb
        clear hb
        go_wp2_with fail
        refine (hP.out _ E1.out).mono ?_
        rintro e w' ⟨rfl, rfl⟩
        go_wp2_with (go_at_call 26; refine (hL _).mono ?_; rintro e w' ⟨rfl, rfl⟩)
        refine (hFo.out _ E1.out).mono ?_
        rintro e w2 ⟨rfl, hb⟩
        have B2 := Lib.hid (B1.out.trans (hb.mono B1.out.size))
        have E2 := Lib.hid (E1.out.below hb)
        have X2 := Lib.hid (X1.out.trans (hb.mono X1.out.size))
        clear hb
        obtain ⟨k0, k1, k2⟩ := three_cells HC.out HS.out X2.out
        go_wp2_with fail
        refine (hO.out _ E2.out).mono ?_
        rintro e w' ⟨rfl, rfl⟩
        go_wp2_with fail
        refine (hD2.out _ E2.out).mono ?_
        rintro e w3 ⟨rfl, hb⟩
        have B3 := Lib.hid (B2.out.trans (hb.mono B2.out.size))
        obtain ⟨j0, j1, j2⟩ := three_cells HC.out HS.out (X2.out.trans (hb.mono X2.out.size))
        clear hb
        go_wp2_with fail
        go_ret
        exact ⟨rfl, B3.out⟩
      · have f' := ne_z f
        clear f
        generalize ofR a b c = r at *
        generalize ckd a b c = k at *
        go_enter Tryd.func6, Tryd.ntmps6
        go_wp2_with fail
        rw [← hW0]
        clear hW0
        refine (hA.out _ E0.out).mono ?_
        rintro e w' ⟨rfl, rfl⟩
        go_wp2_with fail
        refine (hD.out _ E0.out).mono ?_
        rintro e w1 ⟨rfl, hb⟩
        have B1 := Lib.hid (B0.out.trans (hb.mono B0.out.size))
        have E1 := Lib.hid (E0.out.below hb)
        have X1 := Lib.hid hb
        clear hb
        go_wp2_with fail
        refine (hP.out _ E1.out).mono ?_
        rintro e w' ⟨rfl, rfl⟩
        go_wp2_with (go_at_call 26; refine (hL _).mono ?_; rintro e w' ⟨rfl, rfl⟩)
        refine (hFo.out _ E1.out).mono ?_
        rintro e w2 ⟨rfl, hb⟩
        have B2 := Lib.hid (B1.out.trans (hb.mono B1.out.size))
        have E2 := Lib.hid (E1.out.below hb)
        have X2 := Lib.hid (X1.out.trans (hb.mono X1.out.size))
        clear hb
        obtain ⟨k0, k1, k2⟩ := three_cells HC.out HS.out X2.out
        go_wp2_with fail
        refine (hO.out _ E2.out).mono ?_
        rintro e w' ⟨rfl, rfl⟩
        go_wp2_with fail
        go_ret
        exact ⟨rfl, B2.out⟩
    · clear D
      by_cases f : ckd a b c = 0
      · have D := ckd_dt f
        have hD2 := Lib.hid (fun w he => date_some _ _ _ _ w D he)
        rw [f] at hO
        clear D f
        generalize ofR a b c = r at *
        go_enter Tryd.func6, Tryd.ntmps6
        go_wp2_with fail
        rw [← hW0]
        clear hW0
        refine (hA.out _ E0.out).mono ?_
        rintro e w' ⟨rfl, rfl⟩
        go_wp2_with fail
        refine (hD.out _ E0.out).mono ?_
        rintro e w1 ⟨rfl, hb⟩
        have B1 := Lib.hid (B0.out.trans (hb.mono B0.out.size))
        have E1 := Lib.hid (E0.out.below hb)
        have X1 := Lib.hid hb
        clear hb
        go_wp2_with fail
        refine (hP.out _ E1.out).mono ?_
        rintro e w' ⟨rfl, rfl⟩
        obtain ⟨k0, k1, k2⟩ := three_cells HC.out HS.out X1.out
        go_wp2_with (go_at_call 26; refine (hL _).mono ?_; rintro e w' ⟨rfl, rfl⟩)
        refine (hO.out _ E1.out).mono ?_
        rintro e w' ⟨rfl, rfl⟩
        go_wp2_with fail
        refine (hD2.out _ E1.out).mono ?_
        rintro e w3 ⟨rfl, hb⟩
        have B3 := Lib.hid (B1.out.trans (hb.mono B1.out.size))
        obtain ⟨j0, j1, j2⟩ := three_cells HC.out HS.out (X1.out.trans (hb.mono X1.out.size))
        clear hb
        go_wp2_with fail
        go_ret
        exact ⟨rfl, B3.out⟩
      · have f' := ne_z f
        clear f
        generalize ofR a b c = r at *
        generalize ckd a b c = k at *
        go_enter Tryd.func6, Tryd.ntmps6
        go_wp2_with fail
        rw [← hW0]
        clear hW0
        refine (hA.out _ E0.out).mono ?_
        rintro e w' ⟨rfl, rfl⟩
        go_wp2_with fail
        refine (hD.out _ E0.out).mono ?_
        rintro e w1 ⟨rfl, hb⟩
        have B1 := Lib.hid (B0.out.trans (hb.mono B0.out.size))
        have E1 := Lib.hid (E0.out.below hb)
        have X1 := Lib.hid hb
        clear hb
        go_wp2_with fail
        refine (hP.out _ E1.out).mono ?_
        rintro e w' ⟨rfl, rfl⟩
        obtain ⟨k0, k1, k2⟩ := three_cells HC.out HS.out X1.out
        go_wp2_with (go_at_call 26; refine (hL _).mono ?_; rintro e w' ⟨rfl, rfl⟩)
        refine (hO.out _ E1.out).mono ?_
        rintro e w' ⟨rfl, rfl⟩
        go_wp2_with fail
        go_ret
        exact ⟨rfl, B1.out⟩

end Go.Proofs.YtfofkfpoihhdfaaDoor
