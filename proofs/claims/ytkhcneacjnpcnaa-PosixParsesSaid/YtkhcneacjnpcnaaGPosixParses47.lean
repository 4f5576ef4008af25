/- Merged: PosTa. -/
import Derived.Test.YtkhcneacjnpcnaaGPosixParses46
namespace Go.Proofs.Ytkhcneacjnpcnaa
open Go.RowKit
set_option linter.unusedVariables false
set_option linter.unusedSimpArgs false

set_option maxRecDepth 100000 in
set_option maxHeartbeats 16000000 in
theorem dpar_a (s : ByteArray) (w : World) (hs : s.size ≤ 200) (X1 : ByteArray) (y1 : Int) (hy1 : decide (y1 < 0) = true)
    (HN1 : Hid (∀ w, Calls Try.prog 13 #[.string s, .int .i64 0] w fun x w' => x = .returned (.tuple #[.string X1, .int .i64 y1]) ∧ w = w'))
    : Calls Try.prog 6 #[.string s] w fun xx w' => xx = .returned (.tuple #[.agg #[.string ⟨#[]⟩, .string ⟨#[]⟩, .int .i64 0, .int .i64 0, .int .i64 0, .int .i64 0, .int .i64 0, .int .i64 0, .int .i64 0, .int .i64 0, .int .i64 0, .int .i64 0, .int .i64 0, .int .i64 0], .int .i64 2]) ∧ Below w.heap.size w w' := by
  have S0 := Pg.new w
  obtain ⟨W0, hW0⟩ : ∃ W0, W0 = w.alloc (.cells (#[.string ⟨#[]⟩, .string ⟨#[]⟩, .int .i64 0, .int .i64 0, .int .i64 0, .int .i64 0, .int .i64 0, .int .i64 0, .int .i64 0, .int .i64 0, .int .i64 0, .int .i64 0, .int .i64 0, .int .i64 0] : Array Value) 33) := ⟨_, rfl⟩
  have z0 : W0.heap.size = w.heap.size + 1 := by rw [hW0]; simp
  rw [← hW0] at S0
  obtain ⟨W1, hW1⟩ : ∃ W1, W1 = W0.alloc (.cells (#[.string ⟨#[]⟩, .string ⟨#[]⟩, .int .i64 0, .int .i64 0, .int .i64 0, .int .i64 0, .int .i64 0, .int .i64 0, .int .i64 0, .int .i64 0, .int .i64 0, .int .i64 0, .int .i64 0, .int .i64 0] : Array Value) 33) := ⟨_, rfl⟩
  obtain ⟨q, hq⟩ : ∃ q, q = W0.heap.size := ⟨_, rfl⟩
  rw [← z0, ← hW1, ← hq] at S0
  have S := Lib.hid S0
  clear S0 z0
  go_enter Try.func6, Try.ntmps6
  go_upto_region 1 with fail
  rw [← hW0]; clear hW0
  go_upto_region 2 with fail
  rw [← hq, ← hW1]; clear hq hW1
  obtain ⟨d0, d1, d2, d3, d4, d5, d6, d7, d8, d9, d10, d11, d12, d13, h0, h1, h2, h3, h4, h5, h6, h7, h8, h9, h10, h11, h12, h13⟩ := S.out.see
  obtain ⟨p0, p1, p2, p3, p4, p5, p6, p7, p8, p9, p10, p11, p12, p13, g0, g1, g2, g3, g4, g5, g6, g7, g8, g9, g10, g11, g12, g13⟩ := S.out.seep
  go_wp2_with (first
    | (go_at_call 13; with_reducible refine (HN1.out _).mono ?_; rintro x w2 ⟨rfl, rfl⟩))
  obtain ⟨F1, F2, -⟩ := set_block14 S.out.res S.out.bel (Nat.le_refl _) (.string ⟨#[]⟩) (.string ⟨#[]⟩) (.int .i64 0) (.int .i64 0) (.int .i64 0) (.int .i64 0) (.int .i64 0) (.int .i64 0) (.int .i64 0) (.int .i64 0) (.int .i64 0) (.int .i64 0) (.int .i64 0) (.int .i64 0)
  show bodyPost _ _ _ _ _ (put17_14 W1 w.heap.size (.string ⟨#[]⟩) (.string ⟨#[]⟩) (.int .i64 0) (.int .i64 0) (.int .i64 0) (.int .i64 0) (.int .i64 0) (.int .i64 0) (.int .i64 0) (.int .i64 0) (.int .i64 0) (.int .i64 0) (.int .i64 0) (.int .i64 0))
  generalize put17_14 W1 w.heap.size (.string ⟨#[]⟩) (.string ⟨#[]⟩) (.int .i64 0) (.int .i64 0) (.int .i64 0) (.int .i64 0) (.int .i64 0) (.int .i64 0) (.int .i64 0) (.int .i64 0) (.int .i64 0) (.int .i64 0) (.int .i64 0) (.int .i64 0) = W99 at *
  obtain ⟨r0, r1, r2, r3, r4, r5, r6, r7, r8, r9, r10, r11, r12, r13⟩ := see_block14 F2
  refine bodyPost_ret (v := .tuple #[.agg #[.string ⟨#[]⟩, .string ⟨#[]⟩, .int .i64 0, .int .i64 0, .int .i64 0, .int .i64 0, .int .i64 0, .int .i64 0, .int .i64 0, .int .i64 0, .int .i64 0, .int .i64 0, .int .i64 0, .int .i64 0], .int .i64 2]) (by simp [results, Try.results6, go_sem, r0, r1, r2, r3, r4, r5, r6, r7, r8, r9, r10, r11, r12, r13]) rfl ⟨rfl, F1⟩
set_option maxRecDepth 100000 in
set_option maxHeartbeats 16000000 in
theorem dpar_b (s : ByteArray) (w : World) (hs : s.size ≤ 200) (X1 : ByteArray) (k1 : Nat) (P1 : Nat) (n1 b1 o : Int) (D1 : ByteArray) (kP1 : k1 ≤ P1) (lP1 : P1 ≤ s.size) (hD1 : s.extract k1 P1 = D1) (tb1 : (b1 != 0) = true)
    (HN1 : Hid (∀ w, Calls Try.prog 13 #[.string s, .int .i64 0] w fun x w' => x = .returned (.tuple #[.string X1, .int .i64 (k1 : Int)]) ∧ w = w'))
    (HC1 : Hid (∀ w, Calls Try.prog 14 #[.string s, .int .i64 (k1 : Int)] w fun x w' => x = .returned (.int .i64 (P1 : Int)) ∧ w = w'))
    (HP1 : Hid (∀ w, Calls Try.prog 15 #[.string D1, .int .i64 24] w fun x w' => x = .returned (.tuple #[.int .i64 n1, .int .i64 b1]) ∧ Below w.heap.size w w'))
    : Calls Try.prog 6 #[.string s] w fun xx w' => xx = .returned (.tuple #[.agg #[.string ⟨#[]⟩, .string ⟨#[]⟩, .int .i64 0, .int .i64 0, .int .i64 0, .int .i64 0, .int .i64 0, .int .i64 0, .int .i64 0, .int .i64 0, .int .i64 0, .int .i64 0, .int .i64 0, .int .i64 0], .int .i64 b1]) ∧ Below w.heap.size w w' := by
  have S0 := Pg.new w
  obtain ⟨W0, hW0⟩ : ∃ W0, W0 = w.alloc (.cells (#[.string ⟨#[]⟩, .string ⟨#[]⟩, .int .i64 0, .int .i64 0, .int .i64 0, .int .i64 0, .int .i64 0, .int .i64 0, .int .i64 0, .int .i64 0, .int .i64 0, .int .i64 0, .int .i64 0, .int .i64 0] : Array Value) 33) := ⟨_, rfl⟩
  have z0 : W0.heap.size = w.heap.size + 1 := by rw [hW0]; simp
  rw [← hW0] at S0
  obtain ⟨W1, hW1⟩ : ∃ W1, W1 = W0.alloc (.cells (#[.string ⟨#[]⟩, .string ⟨#[]⟩, .int .i64 0, .int .i64 0, .int .i64 0, .int .i64 0, .int .i64 0, .int .i64 0, .int .i64 0, .int .i64 0, .int .i64 0, .int .i64 0, .int .i64 0, .int .i64 0] : Array Value) 33) := ⟨_, rfl⟩
  obtain ⟨q, hq⟩ : ∃ q, q = W0.heap.size := ⟨_, rfl⟩
  rw [← z0, ← hW1, ← hq] at S0
  have S := Lib.hid S0
  clear S0 z0
  go_enter Try.func6, Try.ntmps6
  go_upto_region 1 with fail
  rw [← hW0]; clear hW0
  go_upto_region 2 with fail
  rw [← hq, ← hW1]; clear hq hW1
  obtain ⟨d0, d1, d2, d3, d4, d5, d6, d7, d8, d9, d10, d11, d12, d13, h0, h1, h2, h3, h4, h5, h6, h7, h8, h9, h10, h11, h12, h13⟩ := S.out.see
  have hk1 : decide ((k1 : Int) < 0) = false := decide_eq_false (by omega)
  go_upto_region 6 with (go_at_call 13; with_reducible refine (HN1.out _).mono ?_; rintro x w2 ⟨rfl, rfl⟩)
  obtain ⟨W2, hW2⟩ : ∃ W9, W9 = (W1.setCell ⟨q, 0, none⟩ (.string X1)) := ⟨_, rfl⟩
  have S9 : Pg w (W1.setCell ⟨q, 0, none⟩ (.string X1)) q #[.string X1, .string ⟨#[]⟩, .int .i64 0, .int .i64 0, .int .i64 0, .int .i64 0, .int .i64 0, .int .i64 0, .int .i64 0, .int .i64 0, .int .i64 0, .int .i64 0, .int .i64 0, .int .i64 0] := (S.out.set 0 (.string X1))
  rw [← hW2] at S9
  rw [← hW2]
  replace S := Lib.hid S9
  clear S9 hW2
  obtain ⟨d0, d1, d2, d3, d4, d5, d6, d7, d8, d9, d10, d11, d12, d13, h0, h1, h2, h3, h4, h5, h6, h7, h8, h9, h10, h11, h12, h13⟩ := S.out.see
  obtain ⟨p0, p1, p2, p3, p4, p5, p6, p7, p8, p9, p10, p11, p12, p13, g0, g1, g2, g3, g4, g5, g6, g7, g8, g9, g10, g11, g12, g13⟩ := S.out.seep
  go_wp2_with (first
    | (go_at_call 14; with_reducible refine (HC1.out _).mono ?_; rintro x w3 ⟨rfl, rfl⟩)
    | (go_at_call 15; with_reducible refine (HP1.out _).mono ?_; rintro x w4 ⟨rfl, hb⟩; have S := Lib.hid (S.out.keep hb); clear hb; obtain ⟨d0, d1, d2, d3, d4, d5, d6, d7, d8, d9, d10, d11, d12, d13, h0, h1, h2, h3, h4, h5, h6, h7, h8, h9, h10, h11, h12, h13⟩ := S.out.see; obtain ⟨p0, p1, p2, p3, p4, p5, p6, p7, p8, p9, p10, p11, p12, p13, g0, g1, g2, g3, g4, g5, g6, g7, g8, g9, g10, g11, g12, g13⟩ := S.out.seep))
  obtain ⟨F1, F2, -⟩ := set_block14 S.out.res S.out.bel (Nat.le_refl _) (.string ⟨#[]⟩) (.string ⟨#[]⟩) (.int .i64 0) (.int .i64 0) (.int .i64 0) (.int .i64 0) (.int .i64 0) (.int .i64 0) (.int .i64 0) (.int .i64 0) (.int .i64 0) (.int .i64 0) (.int .i64 0) (.int .i64 0)
  show bodyPost _ _ _ _ _ (put17_14 w4 w.heap.size (.string ⟨#[]⟩) (.string ⟨#[]⟩) (.int .i64 0) (.int .i64 0) (.int .i64 0) (.int .i64 0) (.int .i64 0) (.int .i64 0) (.int .i64 0) (.int .i64 0) (.int .i64 0) (.int .i64 0) (.int .i64 0) (.int .i64 0))
  generalize put17_14 w4 w.heap.size (.string ⟨#[]⟩) (.string ⟨#[]⟩) (.int .i64 0) (.int .i64 0) (.int .i64 0) (.int .i64 0) (.int .i64 0) (.int .i64 0) (.int .i64 0) (.int .i64 0) (.int .i64 0) (.int .i64 0) (.int .i64 0) (.int .i64 0) = W99 at *
  obtain ⟨r0, r1, r2, r3, r4, r5, r6, r7, r8, r9, r10, r11, r12, r13⟩ := see_block14 F2
  refine bodyPost_ret (v := .tuple #[.agg #[.string ⟨#[]⟩, .string ⟨#[]⟩, .int .i64 0, .int .i64 0, .int .i64 0, .int .i64 0, .int .i64 0, .int .i64 0, .int .i64 0, .int .i64 0, .int .i64 0, .int .i64 0, .int .i64 0, .int .i64 0], .int .i64 b1]) (by simp [results, Try.results6, go_sem, r0, r1, r2, r3, r4, r5, r6, r7, r8, r9, r10, r11, r12, r13]) rfl ⟨rfl, F1⟩
set_option maxRecDepth 100000 in
set_option maxHeartbeats 16000000 in
theorem dpar_c (s : ByteArray) (w : World) (hs : s.size ≤ 200) (X1 : ByteArray) (k1 : Nat) (P1 : Nat) (n1 b1 o : Int) (D1 : ByteArray) (kP1 : k1 ≤ P1) (lP1 : P1 ≤ s.size) (hD1 : s.extract k1 P1 = D1) (hO : IntKind.i64.wrap (0 - n1) = o) (hO3 : IntKind.i64.wrap (-n1) = o) (tP : (P1 == s.size) = true) (tP2 : ((P1 : Int) == (s.size : Int)) = true)
    (HN1 : Hid (∀ w, Calls Try.prog 13 #[.string s, .int .i64 0] w fun x w' => x = .returned (.tuple #[.string X1, .int .i64 (k1 : Int)]) ∧ w = w'))
    (HC1 : Hid (∀ w, Calls Try.prog 14 #[.string s, .int .i64 (k1 : Int)] w fun x w' => x = .returned (.int .i64 (P1 : Int)) ∧ w = w'))
    (HP1 : Hid (∀ w, Calls Try.prog 15 #[.string D1, .int .i64 24] w fun x w' => x = .returned (.tuple #[.int .i64 n1, .int .i64 0]) ∧ Below w.heap.size w w'))
    : Calls Try.prog 6 #[.string s] w fun xx w' => xx = .returned (.tuple #[.agg #[.string X1, .string ⟨#[]⟩, .int .i64 o, .int .i64 0, .int .i64 0, .int .i64 0, .int .i64 0, .int .i64 0, .int .i64 0, .int .i64 0, .int .i64 0, .int .i64 0, .int .i64 0, .int .i64 0], .int .i64 0]) ∧ Below w.heap.size w w' := by
  have S0 := Pg.new w
  obtain ⟨W0, hW0⟩ : ∃ W0, W0 = w.alloc (.cells (#[.string ⟨#[]⟩, .string ⟨#[]⟩, .int .i64 0, .int .i64 0, .int .i64 0, .int .i64 0, .int .i64 0, .int .i64 0, .int .i64 0, .int .i64 0, .int .i64 0, .int .i64 0, .int .i64 0, .int .i64 0] : Array Value) 33) := ⟨_, rfl⟩
  have z0 : W0.heap.size = w.heap.size + 1 := by rw [hW0]; simp
  rw [← hW0] at S0
  obtain ⟨W1, hW1⟩ : ∃ W1, W1 = W0.alloc (.cells (#[.string ⟨#[]⟩, .string ⟨#[]⟩, .int .i64 0, .int .i64 0, .int .i64 0, .int .i64 0, .int .i64 0, .int .i64 0, .int .i64 0, .int .i64 0, .int .i64 0, .int .i64 0, .int .i64 0, .int .i64 0] : Array Value) 33) := ⟨_, rfl⟩
  obtain ⟨q, hq⟩ : ∃ q, q = W0.heap.size := ⟨_, rfl⟩
  rw [← z0, ← hW1, ← hq] at S0
  have S := Lib.hid S0
  clear S0 z0
  go_enter Try.func6, Try.ntmps6
  go_upto_region 1 with fail
  rw [← hW0]; clear hW0
  go_upto_region 2 with fail
  rw [← hq, ← hW1]; clear hq hW1
  obtain ⟨d0, d1, d2, d3, d4, d5, d6, d7, d8, d9, d10, d11, d12, d13, h0, h1, h2, h3, h4, h5, h6, h7, h8, h9, h10, h11, h12, h13⟩ := S.out.see
  have hk1 : decide ((k1 : Int) < 0) = false := decide_eq_false (by omega)
  go_upto_region 6 with (go_at_call 13; with_reducible refine (HN1.out _).mono ?_; rintro x w2 ⟨rfl, rfl⟩)
  obtain ⟨W2, hW2⟩ : ∃ W9, W9 = (W1.setCell ⟨q, 0, none⟩ (.string X1)) := ⟨_, rfl⟩
  have S9 : Pg w (W1.setCell ⟨q, 0, none⟩ (.string X1)) q #[.string X1, .string ⟨#[]⟩, .int .i64 0, .int .i64 0, .int .i64 0, .int .i64 0, .int .i64 0, .int .i64 0, .int .i64 0, .int .i64 0, .int .i64 0, .int .i64 0, .int .i64 0, .int .i64 0] := (S.out.set 0 (.string X1))
  rw [← hW2] at S9
  rw [← hW2]
  replace S := Lib.hid S9
  clear S9 hW2
  obtain ⟨d0, d1, d2, d3, d4, d5, d6, d7, d8, d9, d10, d11, d12, d13, h0, h1, h2, h3, h4, h5, h6, h7, h8, h9, h10, h11, h12, h13⟩ := S.out.see
  go_upto_region 11 with (first
    | (go_at_call 14; with_reducible refine (HC1.out _).mono ?_; rintro x w3 ⟨rfl, rfl⟩)
    | (go_at_call 15; with_reducible refine (HP1.out _).mono ?_; rintro x w4 ⟨rfl, hb⟩; have S := Lib.hid (S.out.keep hb); clear hb; obtain ⟨d0, d1, d2, d3, d4, d5, d6, d7, d8, d9, d10, d11, d12, d13, h0, h1, h2, h3, h4, h5, h6, h7, h8, h9, h10, h11, h12, h13⟩ := S.out.see))
  obtain ⟨W5, hW5⟩ : ∃ W9, W9 = (w4.setCell ⟨q, 2, none⟩ (.int .i64 o)) := ⟨_, rfl⟩
  have S9 : Pg w (w4.setCell ⟨q, 2, none⟩ (.int .i64 o)) q #[.string X1, .string ⟨#[]⟩, .int .i64 o, .int .i64 0, .int .i64 0, .int .i64 0, .int .i64 0, .int .i64 0, .int .i64 0, .int .i64 0, .int .i64 0, .int .i64 0, .int .i64 0, .int .i64 0] := (S.out.set 2 (.int .i64 o))
  rw [← hW5] at S9
  rw [← hW5]
  replace S := Lib.hid S9
  clear S9 hW5
  obtain ⟨d0, d1, d2, d3, d4, d5, d6, d7, d8, d9, d10, d11, d12, d13, h0, h1, h2, h3, h4, h5, h6, h7, h8, h9, h10, h11, h12, h13⟩ := S.out.see
  obtain ⟨p0, p1, p2, p3, p4, p5, p6, p7, p8, p9, p10, p11, p12, p13, g0, g1, g2, g3, g4, g5, g6, g7, g8, g9, g10, g11, g12, g13⟩ := S.out.seep
  go_wp2_with fail
  obtain ⟨F1, F2, -⟩ := set_block14 S.out.res S.out.bel (Nat.le_refl _) (.string X1) (.string ⟨#[]⟩) (.int .i64 o) (.int .i64 0) (.int .i64 0) (.int .i64 0) (.int .i64 0) (.int .i64 0) (.int .i64 0) (.int .i64 0) (.int .i64 0) (.int .i64 0) (.int .i64 0) (.int .i64 0)
  show bodyPost _ _ _ _ _ (put17_14 W5 w.heap.size (.string X1) (.string ⟨#[]⟩) (.int .i64 o) (.int .i64 0) (.int .i64 0) (.int .i64 0) (.int .i64 0) (.int .i64 0) (.int .i64 0) (.int .i64 0) (.int .i64 0) (.int .i64 0) (.int .i64 0) (.int .i64 0))
  generalize put17_14 W5 w.heap.size (.string X1) (.string ⟨#[]⟩) (.int .i64 o) (.int .i64 0) (.int .i64 0) (.int .i64 0) (.int .i64 0) (.int .i64 0) (.int .i64 0) (.int .i64 0) (.int .i64 0) (.int .i64 0) (.int .i64 0) (.int .i64 0) = W99 at *
  obtain ⟨r0, r1, r2, r3, r4, r5, r6, r7, r8, r9, r10, r11, r12, r13⟩ := see_block14 F2
  refine bodyPost_ret (v := .tuple #[.agg #[.string X1, .string ⟨#[]⟩, .int .i64 o, .int .i64 0, .int .i64 0, .int .i64 0, .int .i64 0, .int .i64 0, .int .i64 0, .int .i64 0, .int .i64 0, .int .i64 0, .int .i64 0, .int .i64 0], .int .i64 0]) (by simp [results, Try.results6, go_sem, r0, r1, r2, r3, r4, r5, r6, r7, r8, r9, r10, r11, r12, r13]) rfl ⟨rfl, F1⟩
set_option maxRecDepth 100000 in
set_option maxHeartbeats 16000000 in
theorem dpar_d (s : ByteArray) (w : World) (hs : s.size ≤ 200) (X1 : ByteArray) (k1 : Nat) (P1 : Nat) (n1 b1 o : Int) (D1 : ByteArray) (kP1 : k1 ≤ P1) (lP1 : P1 ≤ s.size) (hD1 : s.extract k1 P1 = D1) (hO : IntKind.i64.wrap (0 - n1) = o) (hO3 : IntKind.i64.wrap (-n1) = o) (tP : (P1 == s.size) = false) (tP2 : ((P1 : Int) == (s.size : Int)) = false) (X2 : ByteArray) (y2 : Int) (hy2 : decide (y2 < 0) = true)
    (HN1 : Hid (∀ w, Calls Try.prog 13 #[.string s, .int .i64 0] w fun x w' => x = .returned (.tuple #[.string X1, .int .i64 (k1 : Int)]) ∧ w = w'))
    (HC1 : Hid (∀ w, Calls Try.prog 14 #[.string s, .int .i64 (k1 : Int)] w fun x w' => x = .returned (.int .i64 (P1 : Int)) ∧ w = w'))
    (HP1 : Hid (∀ w, Calls Try.prog 15 #[.string D1, .int .i64 24] w fun x w' => x = .returned (.tuple #[.int .i64 n1, .int .i64 0]) ∧ Below w.heap.size w w'))
    (HN2 : Hid (∀ w, Calls Try.prog 13 #[.string s, .int .i64 (P1 : Int)] w fun x w' => x = .returned (.tuple #[.string X2, .int .i64 y2]) ∧ w = w'))
    : Calls Try.prog 6 #[.string s] w fun xx w' => xx = .returned (.tuple #[.agg #[.string ⟨#[]⟩, .string ⟨#[]⟩, .int .i64 0, .int .i64 0, .int .i64 0, .int .i64 0, .int .i64 0, .int .i64 0, .int .i64 0, .int .i64 0, .int .i64 0, .int .i64 0, .int .i64 0, .int .i64 0], .int .i64 2]) ∧ Below w.heap.size w w' := by
  have S0 := Pg.new w
  obtain ⟨W0, hW0⟩ : ∃ W0, W0 = w.alloc (.cells (#[.string ⟨#[]⟩, .string ⟨#[]⟩, .int .i64 0, .int .i64 0, .int .i64 0, .int .i64 0, .int .i64 0, .int .i64 0, .int .i64 0, .int .i64 0, .int .i64 0, .int .i64 0, .int .i64 0, .int .i64 0] : Array Value) 33) := ⟨_, rfl⟩
  have z0 : W0.heap.size = w.heap.size + 1 := by rw [hW0]; simp
  rw [← hW0] at S0
  obtain ⟨W1, hW1⟩ : ∃ W1, W1 = W0.alloc (.cells (#[.string ⟨#[]⟩, .string ⟨#[]⟩, .int .i64 0, .int .i64 0, .int .i64 0, .int .i64 0, .int .i64 0, .int .i64 0, .int .i64 0, .int .i64 0, .int .i64 0, .int .i64 0, .int .i64 0, .int .i64 0] : Array Value) 33) := ⟨_, rfl⟩
  obtain ⟨q, hq⟩ : ∃ q, q = W0.heap.size := ⟨_, rfl⟩
  rw [← z0, ← hW1, ← hq] at S0
  have S := Lib.hid S0
  clear S0 z0
  go_enter Try.func6, Try.ntmps6
  go_upto_region 1 with fail
  rw [← hW0]; clear hW0
  go_upto_region 2 with fail
  rw [← hq, ← hW1]; clear hq hW1
  obtain ⟨d0, d1, d2, d3, d4, d5, d6, d7, d8, d9, d10, d11, d12, d13, h0, h1, h2, h3, h4, h5, h6, h7, h8, h9, h10, h11, h12, h13⟩ := S.out.see
  have hk1 : decide ((k1 : Int) < 0) = false := decide_eq_false (by omega)
  go_upto_region 6 with (go_at_call 13; with_reducible refine (HN1.out _).mono ?_; rintro x w2 ⟨rfl, rfl⟩)
  obtain ⟨W2, hW2⟩ : ∃ W9, W9 = (W1.setCell ⟨q, 0, none⟩ (.string X1)) := ⟨_, rfl⟩
  have S9 : Pg w (W1.setCell ⟨q, 0, none⟩ (.string X1)) q #[.string X1, .string ⟨#[]⟩, .int .i64 0, .int .i64 0, .int .i64 0, .int .i64 0, .int .i64 0, .int .i64 0, .int .i64 0, .int .i64 0, .int .i64 0, .int .i64 0, .int .i64 0, .int .i64 0] := (S.out.set 0 (.string X1))
  rw [← hW2] at S9
  rw [← hW2]
  replace S := Lib.hid S9
  clear S9 hW2
  obtain ⟨d0, d1, d2, d3, d4, d5, d6, d7, d8, d9, d10, d11, d12, d13, h0, h1, h2, h3, h4, h5, h6, h7, h8, h9, h10, h11, h12, h13⟩ := S.out.see
  go_upto_region 11 with (first
    | (go_at_call 14; with_reducible refine (HC1.out _).mono ?_; rintro x w3 ⟨rfl, rfl⟩)
    | (go_at_call 15; with_reducible refine (HP1.out _).mono ?_; rintro x w4 ⟨rfl, hb⟩; have S := Lib.hid (S.out.keep hb); clear hb; obtain ⟨d0, d1, d2, d3, d4, d5, d6, d7, d8, d9, d10, d11, d12, d13, h0, h1, h2, h3, h4, h5, h6, h7, h8, h9, h10, h11, h12, h13⟩ := S.out.see))
  obtain ⟨W5, hW5⟩ : ∃ W9, W9 = (w4.setCell ⟨q, 2, none⟩ (.int .i64 o)) := ⟨_, rfl⟩
  have S9 : Pg w (w4.setCell ⟨q, 2, none⟩ (.int .i64 o)) q #[.string X1, .string ⟨#[]⟩, .int .i64 o, .int .i64 0, .int .i64 0, .int .i64 0, .int .i64 0, .int .i64 0, .int .i64 0, .int .i64 0, .int .i64 0, .int .i64 0, .int .i64 0, .int .i64 0] := (S.out.set 2 (.int .i64 o))
  rw [← hW5] at S9
  rw [← hW5]
  replace S := Lib.hid S9
  clear S9 hW5
  obtain ⟨d0, d1, d2, d3, d4, d5, d6, d7, d8, d9, d10, d11, d12, d13, h0, h1, h2, h3, h4, h5, h6, h7, h8, h9, h10, h11, h12, h13⟩ := S.out.see
  obtain ⟨p0, p1, p2, p3, p4, p5, p6, p7, p8, p9, p10, p11, p12, p13, g0, g1, g2, g3, g4, g5, g6, g7, g8, g9, g10, g11, g12, g13⟩ := S.out.seep
  go_wp2_with (first
    | (go_at_call 13; with_reducible refine (HN2.out _).mono ?_; rintro x w6 ⟨rfl, rfl⟩))
  obtain ⟨F1, F2, -⟩ := set_block14 S.out.res S.out.bel (Nat.le_refl _) (.string ⟨#[]⟩) (.string ⟨#[]⟩) (.int .i64 0) (.int .i64 0) (.int .i64 0) (.int .i64 0) (.int .i64 0) (.int .i64 0) (.int .i64 0) (.int .i64 0) (.int .i64 0) (.int .i64 0) (.int .i64 0) (.int .i64 0)
  show bodyPost _ _ _ _ _ (put17_14 W5 w.heap.size (.string ⟨#[]⟩) (.string ⟨#[]⟩) (.int .i64 0) (.int .i64 0) (.int .i64 0) (.int .i64 0) (.int .i64 0) (.int .i64 0) (.int .i64 0) (.int .i64 0) (.int .i64 0) (.int .i64 0) (.int .i64 0) (.int .i64 0))
  generalize put17_14 W5 w.heap.size (.string ⟨#[]⟩) (.string ⟨#[]⟩) (.int .i64 0) (.int .i64 0) (.int .i64 0) (.int .i64 0) (.int .i64 0) (.int .i64 0) (.int .i64 0) (.int .i64 0) (.int .i64 0) (.int .i64 0) (.int .i64 0) (.int .i64 0) = W99 at *
  obtain ⟨r0, r1, r2, r3, r4, r5, r6, r7, r8, r9, r10, r11, r12, r13⟩ := see_block14 F2
  refine bodyPost_ret (v := .tuple #[.agg #[.string ⟨#[]⟩, .string ⟨#[]⟩, .int .i64 0, .int .i64 0, .int .i64 0, .int .i64 0, .int .i64 0, .int .i64 0, .int .i64 0, .int .i64 0, .int .i64 0, .int .i64 0, .int .i64 0, .int .i64 0], .int .i64 2]) (by simp [results, Try.results6, go_sem, r0, r1, r2, r3, r4, r5, r6, r7, r8, r9, r10, r11, r12, r13]) rfl ⟨rfl, F1⟩
set_option maxRecDepth 100000 in
set_option maxHeartbeats 16000000 in
theorem dpar_te (s : ByteArray) (w : World) (hs : s.size ≤ 200) (X1 : ByteArray) (k1 : Nat) (P1 : Nat) (n1 b1 o : Int) (D1 : ByteArray) (kP1 : k1 ≤ P1) (lP1 : P1 ≤ s.size) (hD1 : s.extract k1 P1 = D1) (hO : IntKind.i64.wrap (0 - n1) = o) (hO3 : IntKind.i64.wrap (-n1) = o) (tP : (P1 == s.size) = false) (tP2 : ((P1 : Int) == (s.size : Int)) = false) (X2 : ByteArray) (k3 : Nat) (a0 : Int) (hA : IntKind.i64.wrap (o + 3600) = a0) (l3 : k3 < s.size) (t44 : ((s[k3].toNat : Int) != 44) = true) (P2 : Nat) (n2 b2 a2 : Int) (D2 : ByteArray) (kP2 : k3 ≤ P2) (lP2 : P2 ≤ s.size) (hD2 : s.extract k3 P2 = D2) (tb2 : (b2 != 0) = true)
    (HN1 : Hid (∀ w, Calls Try.prog 13 #[.string s, .int .i64 0] w fun x w' => x = .returned (.tuple #[.string X1, .int .i64 (k1 : Int)]) ∧ w = w'))
    (HC1 : Hid (∀ w, Calls Try.prog 14 #[.string s, .int .i64 (k1 : Int)] w fun x w' => x = .returned (.int .i64 (P1 : Int)) ∧ w = w'))
    (HP1 : Hid (∀ w, Calls Try.prog 15 #[.string D1, .int .i64 24] w fun x w' => x = .returned (.tuple #[.int .i64 n1, .int .i64 0]) ∧ Below w.heap.size w w'))
    (HN2 : Hid (∀ w, Calls Try.prog 13 #[.string s, .int .i64 (P1 : Int)] w fun x w' => x = .returned (.tuple #[.string X2, .int .i64 (k3 : Int)]) ∧ w = w'))
    (HC2 : Hid (∀ w, Calls Try.prog 14 #[.string s, .int .i64 (k3 : Int)] w fun x w' => x = .returned (.int .i64 (P2 : Int)) ∧ w = w'))
    (HP2 : Hid (∀ w, Calls Try.prog 15 #[.string D2, .int .i64 24] w fun x w' => x = .returned (.tuple #[.int .i64 n2, .int .i64 b2]) ∧ Below w.heap.size w w'))
    : Calls Try.prog 6 #[.string s] w fun xx w' => xx = .returned (.tuple #[.agg #[.string ⟨#[]⟩, .string ⟨#[]⟩, .int .i64 0, .int .i64 0, .int .i64 0, .int .i64 0, .int .i64 0, .int .i64 0, .int .i64 0, .int .i64 0, .int .i64 0, .int .i64 0, .int .i64 0, .int .i64 0], .int .i64 b2]) ∧ Below w.heap.size w w' := by
  have S0 := Pg.new w
  obtain ⟨W0, hW0⟩ : ∃ W0, W0 = w.alloc (.cells (#[.string ⟨#[]⟩, .string ⟨#[]⟩, .int .i64 0, .int .i64 0, .int .i64 0, .int .i64 0, .int .i64 0, .int .i64 0, .int .i64 0, .int .i64 0, .int .i64 0, .int .i64 0, .int .i64 0, .int .i64 0] : Array Value) 33) := ⟨_, rfl⟩
  have z0 : W0.heap.size = w.heap.size + 1 := by rw [hW0]; simp
  rw [← hW0] at S0
  obtain ⟨W1, hW1⟩ : ∃ W1, W1 = W0.alloc (.cells (#[.string ⟨#[]⟩, .string ⟨#[]⟩, .int .i64 0, .int .i64 0, .int .i64 0, .int .i64 0, .int .i64 0, .int .i64 0, .int .i64 0, .int .i64 0, .int .i64 0, .int .i64 0, .int .i64 0, .int .i64 0] : Array Value) 33) := ⟨_, rfl⟩
  obtain ⟨q, hq⟩ : ∃ q, q = W0.heap.size := ⟨_, rfl⟩
  rw [← z0, ← hW1, ← hq] at S0
  have S := Lib.hid S0
  clear S0 z0
  go_enter Try.func6, Try.ntmps6
  go_upto_region 1 with fail
  rw [← hW0]; clear hW0
  go_upto_region 2 with fail
  rw [← hq, ← hW1]; clear hq hW1
  obtain ⟨d0, d1, d2, d3, d4, d5, d6, d7, d8, d9, d10, d11, d12, d13, h0, h1, h2, h3, h4, h5, h6, h7, h8, h9, h10, h11, h12, h13⟩ := S.out.see
  have hk1 : decide ((k1 : Int) < 0) = false := decide_eq_false (by omega)
  go_upto_region 6 with (go_at_call 13; with_reducible refine (HN1.out _).mono ?_; rintro x w2 ⟨rfl, rfl⟩)
  obtain ⟨W2, hW2⟩ : ∃ W9, W9 = (W1.setCell ⟨q, 0, none⟩ (.string X1)) := ⟨_, rfl⟩
  have S9 : Pg w (W1.setCell ⟨q, 0, none⟩ (.string X1)) q #[.string X1, .string ⟨#[]⟩, .int .i64 0, .int .i64 0, .int .i64 0, .int .i64 0, .int .i64 0, .int .i64 0, .int .i64 0, .int .i64 0, .int .i64 0, .int .i64 0, .int .i64 0, .int .i64 0] := (S.out.set 0 (.string X1))
  rw [← hW2] at S9
  rw [← hW2]
  replace S := Lib.hid S9
  clear S9 hW2
  obtain ⟨d0, d1, d2, d3, d4, d5, d6, d7, d8, d9, d10, d11, d12, d13, h0, h1, h2, h3, h4, h5, h6, h7, h8, h9, h10, h11, h12, h13⟩ := S.out.see
  go_upto_region 11 with (first
    | (go_at_call 14; with_reducible refine (HC1.out _).mono ?_; rintro x w3 ⟨rfl, rfl⟩)
    | (go_at_call 15; with_reducible refine (HP1.out _).mono ?_; rintro x w4 ⟨rfl, hb⟩; have S := Lib.hid (S.out.keep hb); clear hb; obtain ⟨d0, d1, d2, d3, d4, d5, d6, d7, d8, d9, d10, d11, d12, d13, h0, h1, h2, h3, h4, h5, h6, h7, h8, h9, h10, h11, h12, h13⟩ := S.out.see))
  obtain ⟨W5, hW5⟩ : ∃ W9, W9 = (w4.setCell ⟨q, 2, none⟩ (.int .i64 o)) := ⟨_, rfl⟩
  have S9 : Pg w (w4.setCell ⟨q, 2, none⟩ (.int .i64 o)) q #[.string X1, .string ⟨#[]⟩, .int .i64 o, .int .i64 0, .int .i64 0, .int .i64 0, .int .i64 0, .int .i64 0, .int .i64 0, .int .i64 0, .int .i64 0, .int .i64 0, .int .i64 0, .int .i64 0] := (S.out.set 2 (.int .i64 o))
  rw [← hW5] at S9
  rw [← hW5]
  replace S := Lib.hid S9
  clear S9 hW5
  obtain ⟨d0, d1, d2, d3, d4, d5, d6, d7, d8, d9, d10, d11, d12, d13, h0, h1, h2, h3, h4, h5, h6, h7, h8, h9, h10, h11, h12, h13⟩ := S.out.see
  have hk3 : decide ((k3 : Int) < 0) = false := decide_eq_false (by omega)
  go_upto_region 17 with (go_at_call 13; with_reducible refine (HN2.out _).mono ?_; rintro x w6 ⟨rfl, rfl⟩)
  obtain ⟨W7, hW7⟩ : ∃ W9, W9 = (W5.setCell ⟨q, 1, none⟩ (.string X2)) := ⟨_, rfl⟩
  have S9 : Pg w (W5.setCell ⟨q, 1, none⟩ (.string X2)) q #[.string X1, .string X2, .int .i64 o, .int .i64 0, .int .i64 0, .int .i64 0, .int .i64 0, .int .i64 0, .int .i64 0, .int .i64 0, .int .i64 0, .int .i64 0, .int .i64 0, .int .i64 0] := (S.out.set 1 (.string X2))
  rw [← hW7] at S9
  rw [← hW7]
  replace S := Lib.hid S9
  clear S9 hW7
  obtain ⟨d0, d1, d2, d3, d4, d5, d6, d7, d8, d9, d10, d11, d12, d13, h0, h1, h2, h3, h4, h5, h6, h7, h8, h9, h10, h11, h12, h13⟩ := S.out.see
  go_upto_region 18 with fail
  obtain ⟨W8, hW8⟩ : ∃ W9, W9 = (W7.setCell ⟨q, 3, none⟩ (.int .i64 a0)) := ⟨_, rfl⟩
  have S9 : Pg w (W7.setCell ⟨q, 3, none⟩ (.int .i64 a0)) q #[.string X1, .string X2, .int .i64 o, .int .i64 a0, .int .i64 0, .int .i64 0, .int .i64 0, .int .i64 0, .int .i64 0, .int .i64 0, .int .i64 0, .int .i64 0, .int .i64 0, .int .i64 0] := (S.out.set 3 (.int .i64 a0))
  rw [← hW8] at S9
  rw [← hW8]
  replace S := Lib.hid S9
  clear S9 hW8
  obtain ⟨d0, d1, d2, d3, d4, d5, d6, d7, d8, d9, d10, d11, d12, d13, h0, h1, h2, h3, h4, h5, h6, h7, h8, h9, h10, h11, h12, h13⟩ := S.out.see
  have hl3 : decide (k3 < s.size) = true := decide_eq_true l3
  obtain ⟨p0, p1, p2, p3, p4, p5, p6, p7, p8, p9, p10, p11, p12, p13, g0, g1, g2, g3, g4, g5, g6, g7, g8, g9, g10, g11, g12, g13⟩ := S.out.seep
  go_wp2_with (first
    | (go_at_call 14; with_reducible refine (HC2.out _).mono ?_; rintro x w9 ⟨rfl, rfl⟩)
    | (go_at_call 15; with_reducible refine (HP2.out _).mono ?_; rintro x w10 ⟨rfl, hb⟩; have S := Lib.hid (S.out.keep hb); clear hb; obtain ⟨d0, d1, d2, d3, d4, d5, d6, d7, d8, d9, d10, d11, d12, d13, h0, h1, h2, h3, h4, h5, h6, h7, h8, h9, h10, h11, h12, h13⟩ := S.out.see; obtain ⟨p0, p1, p2, p3, p4, p5, p6, p7, p8, p9, p10, p11, p12, p13, g0, g1, g2, g3, g4, g5, g6, g7, g8, g9, g10, g11, g12, g13⟩ := S.out.seep))
  obtain ⟨F1, F2, -⟩ := set_block14 S.out.res S.out.bel (Nat.le_refl _) (.string ⟨#[]⟩) (.string ⟨#[]⟩) (.int .i64 0) (.int .i64 0) (.int .i64 0) (.int .i64 0) (.int .i64 0) (.int .i64 0) (.int .i64 0) (.int .i64 0) (.int .i64 0) (.int .i64 0) (.int .i64 0) (.int .i64 0)
  show bodyPost _ _ _ _ _ (put17_14 w10 w.heap.size (.string ⟨#[]⟩) (.string ⟨#[]⟩) (.int .i64 0) (.int .i64 0) (.int .i64 0) (.int .i64 0) (.int .i64 0) (.int .i64 0) (.int .i64 0) (.int .i64 0) (.int .i64 0) (.int .i64 0) (.int .i64 0) (.int .i64 0))
  generalize put17_14 w10 w.heap.size (.string ⟨#[]⟩) (.string ⟨#[]⟩) (.int .i64 0) (.int .i64 0) (.int .i64 0) (.int .i64 0) (.int .i64 0) (.int .i64 0) (.int .i64 0) (.int .i64 0) (.int .i64 0) (.int .i64 0) (.int .i64 0) (.int .i64 0) = W99 at *
  obtain ⟨r0, r1, r2, r3, r4, r5, r6, r7, r8, r9, r10, r11, r12, r13⟩ := see_block14 F2
  refine bodyPost_ret (v := .tuple #[.agg #[.string ⟨#[]⟩, .string ⟨#[]⟩, .int .i64 0, .int .i64 0, .int .i64 0, .int .i64 0, .int .i64 0, .int .i64 0, .int .i64 0, .int .i64 0, .int .i64 0, .int .i64 0, .int .i64 0, .int .i64 0], .int .i64 b2]) (by simp [results, Try.results6, go_sem, r0, r1, r2, r3, r4, r5, r6, r7, r8, r9, r10, r11, r12, r13]) rfl ⟨rfl, F1⟩
set_option maxRecDepth 100000 in
set_option maxHeartbeats 16000000 in
theorem dpar_uf (s : ByteArray) (w : World) (hs : s.size ≤ 200) (X1 : ByteArray) (k1 : Nat) (P1 : Nat) (n1 b1 o : Int) (D1 : ByteArray) (kP1 : k1 ≤ P1) (lP1 : P1 ≤ s.size) (hD1 : s.extract k1 P1 = D1) (hO : IntKind.i64.wrap (0 - n1) = o) (hO3 : IntKind.i64.wrap (-n1) = o) (tP : (P1 == s.size) = false) (tP2 : ((P1 : Int) == (s.size : Int)) = false) (X2 : ByteArray) (k3 : Nat) (a0 : Int) (hA : IntKind.i64.wrap (o + 3600) = a0) (l4 : s.size ≤ k3)
    (HN1 : Hid (∀ w, Calls Try.prog 13 #[.string s, .int .i64 0] w fun x w' => x = .returned (.tuple #[.string X1, .int .i64 (k1 : Int)]) ∧ w = w'))
    (HC1 : Hid (∀ w, Calls Try.prog 14 #[.string s, .int .i64 (k1 : Int)] w fun x w' => x = .returned (.int .i64 (P1 : Int)) ∧ w = w'))
    (HP1 : Hid (∀ w, Calls Try.prog 15 #[.string D1, .int .i64 24] w fun x w' => x = .returned (.tuple #[.int .i64 n1, .int .i64 0]) ∧ Below w.heap.size w w'))
    (HN2 : Hid (∀ w, Calls Try.prog 13 #[.string s, .int .i64 (P1 : Int)] w fun x w' => x = .returned (.tuple #[.string X2, .int .i64 (k3 : Int)]) ∧ w = w'))
    : Calls Try.prog 6 #[.string s] w fun xx w' => xx = .returned (.tuple #[.agg #[.string ⟨#[]⟩, .string ⟨#[]⟩, .int .i64 0, .int .i64 0, .int .i64 0, .int .i64 0, .int .i64 0, .int .i64 0, .int .i64 0, .int .i64 0, .int .i64 0, .int .i64 0, .int .i64 0, .int .i64 0], .int .i64 2]) ∧ Below w.heap.size w w' := by
  have S0 := Pg.new w
  obtain ⟨W0, hW0⟩ : ∃ W0, W0 = w.alloc (.cells (#[.string ⟨#[]⟩, .string ⟨#[]⟩, .int .i64 0, .int .i64 0, .int .i64 0, .int .i64 0, .int .i64 0, .int .i64 0, .int .i64 0, .int .i64 0, .int .i64 0, .int .i64 0, .int .i64 0, .int .i64 0] : Array Value) 33) := ⟨_, rfl⟩
  have z0 : W0.heap.size = w.heap.size + 1 := by rw [hW0]; simp
  rw [← hW0] at S0
  obtain ⟨W1, hW1⟩ : ∃ W1, W1 = W0.alloc (.cells (#[.string ⟨#[]⟩, .string ⟨#[]⟩, .int .i64 0, .int .i64 0, .int .i64 0, .int .i64 0, .int .i64 0, .int .i64 0, .int .i64 0, .int .i64 0, .int .i64 0, .int .i64 0, .int .i64 0, .int .i64 0] : Array Value) 33) := ⟨_, rfl⟩
  obtain ⟨q, hq⟩ : ∃ q, q = W0.heap.size := ⟨_, rfl⟩
  rw [← z0, ← hW1, ← hq] at S0
  have S := Lib.hid S0
  clear S0 z0
  go_enter Try.func6, Try.ntmps6
  go_upto_region 1 with fail
  rw [← hW0]; clear hW0
  go_upto_region 2 with fail
  rw [← hq, ← hW1]; clear hq hW1
  obtain ⟨d0, d1, d2, d3, d4, d5, d6, d7, d8, d9, d10, d11, d12, d13, h0, h1, h2, h3, h4, h5, h6, h7, h8, h9, h10, h11, h12, h13⟩ := S.out.see
  have hk1 : decide ((k1 : Int) < 0) = false := decide_eq_false (by omega)
  go_upto_region 6 with (go_at_call 13; with_reducible refine (HN1.out _).mono ?_; rintro x w2 ⟨rfl, rfl⟩)
  obtain ⟨W2, hW2⟩ : ∃ W9, W9 = (W1.setCell ⟨q, 0, none⟩ (.string X1)) := ⟨_, rfl⟩
  have S9 : Pg w (W1.setCell ⟨q, 0, none⟩ (.string X1)) q #[.string X1, .string ⟨#[]⟩, .int .i64 0, .int .i64 0, .int .i64 0, .int .i64 0, .int .i64 0, .int .i64 0, .int .i64 0, .int .i64 0, .int .i64 0, .int .i64 0, .int .i64 0, .int .i64 0] := (S.out.set 0 (.string X1))
  rw [← hW2] at S9
  rw [← hW2]
  replace S := Lib.hid S9
  clear S9 hW2
  obtain ⟨d0, d1, d2, d3, d4, d5, d6, d7, d8, d9, d10, d11, d12, d13, h0, h1, h2, h3, h4, h5, h6, h7, h8, h9, h10, h11, h12, h13⟩ := S.out.see
  go_upto_region 11 with (first
    | (go_at_call 14; with_reducible refine (HC1.out _).mono ?_; rintro x w3 ⟨rfl, rfl⟩)
    | (go_at_call 15; with_reducible refine (HP1.out _).mono ?_; rintro x w4 ⟨rfl, hb⟩; have S := Lib.hid (S.out.keep hb); clear hb; obtain ⟨d0, d1, d2, d3, d4, d5, d6, d7, d8, d9, d10, d11, d12, d13, h0, h1, h2, h3, h4, h5, h6, h7, h8, h9, h10, h11, h12, h13⟩ := S.out.see))
  obtain ⟨W5, hW5⟩ : ∃ W9, W9 = (w4.setCell ⟨q, 2, none⟩ (.int .i64 o)) := ⟨_, rfl⟩
  have S9 : Pg w (w4.setCell ⟨q, 2, none⟩ (.int .i64 o)) q #[.string X1, .string ⟨#[]⟩, .int .i64 o, .int .i64 0, .int .i64 0, .int .i64 0, .int .i64 0, .int .i64 0, .int .i64 0, .int .i64 0, .int .i64 0, .int .i64 0, .int .i64 0, .int .i64 0] := (S.out.set 2 (.int .i64 o))
  rw [← hW5] at S9
  rw [← hW5]
  replace S := Lib.hid S9
  clear S9 hW5
  obtain ⟨d0, d1, d2, d3, d4, d5, d6, d7, d8, d9, d10, d11, d12, d13, h0, h1, h2, h3, h4, h5, h6, h7, h8, h9, h10, h11, h12, h13⟩ := S.out.see
  have hk3 : decide ((k3 : Int) < 0) = false := decide_eq_false (by omega)
  go_upto_region 17 with (go_at_call 13; with_reducible refine (HN2.out _).mono ?_; rintro x w6 ⟨rfl, rfl⟩)
  obtain ⟨W7, hW7⟩ : ∃ W9, W9 = (W5.setCell ⟨q, 1, none⟩ (.string X2)) := ⟨_, rfl⟩
  have S9 : Pg w (W5.setCell ⟨q, 1, none⟩ (.string X2)) q #[.string X1, .string X2, .int .i64 o, .int .i64 0, .int .i64 0, .int .i64 0, .int .i64 0, .int .i64 0, .int .i64 0, .int .i64 0, .int .i64 0, .int .i64 0, .int .i64 0, .int .i64 0] := (S.out.set 1 (.string X2))
  rw [← hW7] at S9
  rw [← hW7]
  replace S := Lib.hid S9
  clear S9 hW7
  obtain ⟨d0, d1, d2, d3, d4, d5, d6, d7, d8, d9, d10, d11, d12, d13, h0, h1, h2, h3, h4, h5, h6, h7, h8, h9, h10, h11, h12, h13⟩ := S.out.see
  go_upto_region 18 with fail
  obtain ⟨W8, hW8⟩ : ∃ W9, W9 = (W7.setCell ⟨q, 3, none⟩ (.int .i64 a0)) := ⟨_, rfl⟩
  have S9 : Pg w (W7.setCell ⟨q, 3, none⟩ (.int .i64 a0)) q #[.string X1, .string X2, .int .i64 o, .int .i64 a0, .int .i64 0, .int .i64 0, .int .i64 0, .int .i64 0, .int .i64 0, .int .i64 0, .int .i64 0, .int .i64 0, .int .i64 0, .int .i64 0] := (S.out.set 3 (.int .i64 a0))
  rw [← hW8] at S9
  rw [← hW8]
  replace S := Lib.hid S9
  clear S9 hW8
  obtain ⟨d0, d1, d2, d3, d4, d5, d6, d7, d8, d9, d10, d11, d12, d13, h0, h1, h2, h3, h4, h5, h6, h7, h8, h9, h10, h11, h12, h13⟩ := S.out.see
  have hl3 : decide (k3 < s.size) = false := decide_eq_false (by omega)
  go_upto_region 25 with fail
  go_wp2_with fail
  refine wp_loop_rounds 1 ?_
  rw [rounds_succ]
  have hl4 : decide (s.size ≤ k3) = true := decide_eq_true l4
  obtain ⟨p0, p1, p2, p3, p4, p5, p6, p7, p8, p9, p10, p11, p12, p13, g0, g1, g2, g3, g4, g5, g6, g7, g8, g9, g10, g11, g12, g13⟩ := S.out.seep
  go_wp2_with fail
  obtain ⟨F1, F2, -⟩ := set_block14 S.out.res S.out.bel (Nat.le_refl _) (.string ⟨#[]⟩) (.string ⟨#[]⟩) (.int .i64 0) (.int .i64 0) (.int .i64 0) (.int .i64 0) (.int .i64 0) (.int .i64 0) (.int .i64 0) (.int .i64 0) (.int .i64 0) (.int .i64 0) (.int .i64 0) (.int .i64 0)
  show bodyPost _ _ _ _ _ (put17_14 W8 w.heap.size (.string ⟨#[]⟩) (.string ⟨#[]⟩) (.int .i64 0) (.int .i64 0) (.int .i64 0) (.int .i64 0) (.int .i64 0) (.int .i64 0) (.int .i64 0) (.int .i64 0) (.int .i64 0) (.int .i64 0) (.int .i64 0) (.int .i64 0))
  generalize put17_14 W8 w.heap.size (.string ⟨#[]⟩) (.string ⟨#[]⟩) (.int .i64 0) (.int .i64 0) (.int .i64 0) (.int .i64 0) (.int .i64 0) (.int .i64 0) (.int .i64 0) (.int .i64 0) (.int .i64 0) (.int .i64 0) (.int .i64 0) (.int .i64 0) = W99 at *
  obtain ⟨r0, r1, r2, r3, r4, r5, r6, r7, r8, r9, r10, r11, r12, r13⟩ := see_block14 F2
  refine bodyPost_ret (v := .tuple #[.agg #[.string ⟨#[]⟩, .string ⟨#[]⟩, .int .i64 0, .int .i64 0, .int .i64 0, .int .i64 0, .int .i64 0, .int .i64 0, .int .i64 0, .int .i64 0, .int .i64 0, .int .i64 0, .int .i64 0, .int .i64 0], .int .i64 2]) (by simp [results, Try.results6, go_sem, r0, r1, r2, r3, r4, r5, r6, r7, r8, r9, r10, r11, r12, r13]) rfl ⟨rfl, F1⟩
set_option maxRecDepth 100000 in
set_option maxHeartbeats 16000000 in
theorem dpar_tf (s : ByteArray) (w : World) (hs : s.size ≤ 200) (X1 : ByteArray) (k1 : Nat) (P1 : Nat) (n1 b1 o : Int) (D1 : ByteArray) (kP1 : k1 ≤ P1) (lP1 : P1 ≤ s.size) (hD1 : s.extract k1 P1 = D1) (hO : IntKind.i64.wrap (0 - n1) = o) (hO3 : IntKind.i64.wrap (-n1) = o) (tP : (P1 == s.size) = false) (tP2 : ((P1 : Int) == (s.size : Int)) = false) (X2 : ByteArray) (k3 : Nat) (a0 : Int) (hA : IntKind.i64.wrap (o + 3600) = a0) (l3 : k3 < s.size) (t44 : ((s[k3].toNat : Int) != 44) = true) (P2 : Nat) (n2 b2 a2 : Int) (D2 : ByteArray) (kP2 : k3 ≤ P2) (lP2 : P2 ≤ s.size) (hD2 : s.extract k3 P2 = D2) (hA2 : IntKind.i64.wrap (0 - n2) = a2) (hA3 : IntKind.i64.wrap (-n2) = a2) (l4 : s.size ≤ P2)
    (HN1 : Hid (∀ w, Calls Try.prog 13 #[.string s, .int .i64 0] w fun x w' => x = .returned (.tuple #[.string X1, .int .i64 (k1 : Int)]) ∧ w = w'))
    (HC1 : Hid (∀ w, Calls Try.prog 14 #[.string s, .int .i64 (k1 : Int)] w fun x w' => x = .returned (.int .i64 (P1 : Int)) ∧ w = w'))
    (HP1 : Hid (∀ w, Calls Try.prog 15 #[.string D1, .int .i64 24] w fun x w' => x = .returned (.tuple #[.int .i64 n1, .int .i64 0]) ∧ Below w.heap.size w w'))
    (HN2 : Hid (∀ w, Calls Try.prog 13 #[.string s, .int .i64 (P1 : Int)] w fun x w' => x = .returned (.tuple #[.string X2, .int .i64 (k3 : Int)]) ∧ w = w'))
    (HC2 : Hid (∀ w, Calls Try.prog 14 #[.string s, .int .i64 (k3 : Int)] w fun x w' => x = .returned (.int .i64 (P2 : Int)) ∧ w = w'))
    (HP2 : Hid (∀ w, Calls Try.prog 15 #[.string D2, .int .i64 24] w fun x w' => x = .returned (.tuple #[.int .i64 n2, .int .i64 0]) ∧ Below w.heap.size w w'))
    : Calls Try.prog 6 #[.string s] w fun xx w' => xx = .returned (.tuple #[.agg #[.string ⟨#[]⟩, .string ⟨#[]⟩, .int .i64 0, .int .i64 0, .int .i64 0, .int .i64 0, .int .i64 0, .int .i64 0, .int .i64 0, .int .i64 0, .int .i64 0, .int .i64 0, .int .i64 0, .int .i64 0], .int .i64 2]) ∧ Below w.heap.size w w' := by
  have S0 := Pg.new w
  obtain ⟨W0, hW0⟩ : ∃ W0, W0 = w.alloc (.cells (#[.string ⟨#[]⟩, .string ⟨#[]⟩, .int .i64 0, .int .i64 0, .int .i64 0, .int .i64 0, .int .i64 0, .int .i64 0, .int .i64 0, .int .i64 0, .int .i64 0, .int .i64 0, .int .i64 0, .int .i64 0] : Array Value) 33) := ⟨_, rfl⟩
  have z0 : W0.heap.size = w.heap.size + 1 := by rw [hW0]; simp
  rw [← hW0] at S0
  obtain ⟨W1, hW1⟩ : ∃ W1, W1 = W0.alloc (.cells (#[.string ⟨#[]⟩, .string ⟨#[]⟩, .int .i64 0, .int .i64 0, .int .i64 0, .int .i64 0, .int .i64 0, .int .i64 0, .int .i64 0, .int .i64 0, .int .i64 0, .int .i64 0, .int .i64 0, .int .i64 0] : Array Value) 33) := ⟨_, rfl⟩
  obtain ⟨q, hq⟩ : ∃ q, q = W0.heap.size := ⟨_, rfl⟩
  rw [← z0, ← hW1, ← hq] at S0
  have S := Lib.hid S0
  clear S0 z0
  go_enter Try.func6, Try.ntmps6
  go_upto_region 1 with fail
  rw [← hW0]; clear hW0
  go_upto_region 2 with fail
  rw [← hq, ← hW1]; clear hq hW1
  obtain ⟨d0, d1, d2, d3, d4, d5, d6, d7, d8, d9, d10, d11, d12, d13, h0, h1, h2, h3, h4, h5, h6, h7, h8, h9, h10, h11, h12, h13⟩ := S.out.see
  have hk1 : decide ((k1 : Int) < 0) = false := decide_eq_false (by omega)
  go_upto_region 6 with (go_at_call 13; with_reducible refine (HN1.out _).mono ?_; rintro x w2 ⟨rfl, rfl⟩)
  obtain ⟨W2, hW2⟩ : ∃ W9, W9 = (W1.setCell ⟨q, 0, none⟩ (.string X1)) := ⟨_, rfl⟩
  have S9 : Pg w (W1.setCell ⟨q, 0, none⟩ (.string X1)) q #[.string X1, .string ⟨#[]⟩, .int .i64 0, .int .i64 0, .int .i64 0, .int .i64 0, .int .i64 0, .int .i64 0, .int .i64 0, .int .i64 0, .int .i64 0, .int .i64 0, .int .i64 0, .int .i64 0] := (S.out.set 0 (.string X1))
  rw [← hW2] at S9
  rw [← hW2]
  replace S := Lib.hid S9
  clear S9 hW2
  obtain ⟨d0, d1, d2, d3, d4, d5, d6, d7, d8, d9, d10, d11, d12, d13, h0, h1, h2, h3, h4, h5, h6, h7, h8, h9, h10, h11, h12, h13⟩ := S.out.see
  go_upto_region 11 with (first
    | (go_at_call 14; with_reducible refine (HC1.out _).mono ?_; rintro x w3 ⟨rfl, rfl⟩)
    | (go_at_call 15; with_reducible refine (HP1.out _).mono ?_; rintro x w4 ⟨rfl, hb⟩; have S := Lib.hid (S.out.keep hb); clear hb; obtain ⟨d0, d1, d2, d3, d4, d5, d6, d7, d8, d9, d10, d11, d12, d13, h0, h1, h2, h3, h4, h5, h6, h7, h8, h9, h10, h11, h12, h13⟩ := S.out.see))
  obtain ⟨W5, hW5⟩ : ∃ W9, W9 = (w4.setCell ⟨q, 2, none⟩ (.int .i64 o)) := ⟨_, rfl⟩
  have S9 : Pg w (w4.setCell ⟨q, 2, none⟩ (.int .i64 o)) q #[.string X1, .string ⟨#[]⟩, .int .i64 o, .int .i64 0, .int .i64 0, .int .i64 0, .int .i64 0, .int .i64 0, .int .i64 0, .int .i64 0, .int .i64 0, .int .i64 0, .int .i64 0, .int .i64 0] := (S.out.set 2 (.int .i64 o))
  rw [← hW5] at S9
  rw [← hW5]
  replace S := Lib.hid S9
  clear S9 hW5
  obtain ⟨d0, d1, d2, d3, d4, d5, d6, d7, d8, d9, d10, d11, d12, d13, h0, h1, h2, h3, h4, h5, h6, h7, h8, h9, h10, h11, h12, h13⟩ := S.out.see
  have hk3 : decide ((k3 : Int) < 0) = false := decide_eq_false (by omega)
  go_upto_region 17 with (go_at_call 13; with_reducible refine (HN2.out _).mono ?_; rintro x w6 ⟨rfl, rfl⟩)
  obtain ⟨W7, hW7⟩ : ∃ W9, W9 = (W5.setCell ⟨q, 1, none⟩ (.string X2)) := ⟨_, rfl⟩
  have S9 : Pg w (W5.setCell ⟨q, 1, none⟩ (.string X2)) q #[.string X1, .string X2, .int .i64 o, .int .i64 0, .int .i64 0, .int .i64 0, .int .i64 0, .int .i64 0, .int .i64 0, .int .i64 0, .int .i64 0, .int .i64 0, .int .i64 0, .int .i64 0] := (S.out.set 1 (.string X2))
  rw [← hW7] at S9
  rw [← hW7]
  replace S := Lib.hid S9
  clear S9 hW7
  obtain ⟨d0, d1, d2, d3, d4, d5, d6, d7, d8, d9, d10, d11, d12, d13, h0, h1, h2, h3, h4, h5, h6, h7, h8, h9, h10, h11, h12, h13⟩ := S.out.see
  go_upto_region 18 with fail
  obtain ⟨W8, hW8⟩ : ∃ W9, W9 = (W7.setCell ⟨q, 3, none⟩ (.int .i64 a0)) := ⟨_, rfl⟩
  have S9 : Pg w (W7.setCell ⟨q, 3, none⟩ (.int .i64 a0)) q #[.string X1, .string X2, .int .i64 o, .int .i64 a0, .int .i64 0, .int .i64 0, .int .i64 0, .int .i64 0, .int .i64 0, .int .i64 0, .int .i64 0, .int .i64 0, .int .i64 0, .int .i64 0] := (S.out.set 3 (.int .i64 a0))
  rw [← hW8] at S9
  rw [← hW8]
  replace S := Lib.hid S9
  clear S9 hW8
  obtain ⟨d0, d1, d2, d3, d4, d5, d6, d7, d8, d9, d10, d11, d12, d13, h0, h1, h2, h3, h4, h5, h6, h7, h8, h9, h10, h11, h12, h13⟩ := S.out.see
  have hl3 : decide (k3 < s.size) = true := decide_eq_true l3
  go_upto_region 24 with (first
    | (go_at_call 14; with_reducible refine (HC2.out _).mono ?_; rintro x w9 ⟨rfl, rfl⟩)
    | (go_at_call 15; with_reducible refine (HP2.out _).mono ?_; rintro x w10 ⟨rfl, hb⟩; have S := Lib.hid (S.out.keep hb); clear hb; obtain ⟨d0, d1, d2, d3, d4, d5, d6, d7, d8, d9, d10, d11, d12, d13, h0, h1, h2, h3, h4, h5, h6, h7, h8, h9, h10, h11, h12, h13⟩ := S.out.see))
  obtain ⟨W11, hW11⟩ : ∃ W9, W9 = (w10.setCell ⟨q, 3, none⟩ (.int .i64 a2)) := ⟨_, rfl⟩
  have S9 : Pg w (w10.setCell ⟨q, 3, none⟩ (.int .i64 a2)) q #[.string X1, .string X2, .int .i64 o, .int .i64 a2, .int .i64 0, .int .i64 0, .int .i64 0, .int .i64 0, .int .i64 0, .int .i64 0, .int .i64 0, .int .i64 0, .int .i64 0, .int .i64 0] := (S.out.set 3 (.int .i64 a2))
  rw [← hW11] at S9
  rw [← hW11]
  replace S := Lib.hid S9
  clear S9 hW11
  obtain ⟨d0, d1, d2, d3, d4, d5, d6, d7, d8, d9, d10, d11, d12, d13, h0, h1, h2, h3, h4, h5, h6, h7, h8, h9, h10, h11, h12, h13⟩ := S.out.see
  go_upto_region 25 with fail
  go_wp2_with fail
  refine wp_loop_rounds 1 ?_
  rw [rounds_succ]
  have hl4 : decide (s.size ≤ P2) = true := decide_eq_true l4
  obtain ⟨p0, p1, p2, p3, p4, p5, p6, p7, p8, p9, p10, p11, p12, p13, g0, g1, g2, g3, g4, g5, g6, g7, g8, g9, g10, g11, g12, g13⟩ := S.out.seep
  go_wp2_with fail
  obtain ⟨F1, F2, -⟩ := set_block14 S.out.res S.out.bel (Nat.le_refl _) (.string ⟨#[]⟩) (.string ⟨#[]⟩) (.int .i64 0) (.int .i64 0) (.int .i64 0) (.int .i64 0) (.int .i64 0) (.int .i64 0) (.int .i64 0) (.int .i64 0) (.int .i64 0) (.int .i64 0) (.int .i64 0) (.int .i64 0)
  show bodyPost _ _ _ _ _ (put17_14 W11 w.heap.size (.string ⟨#[]⟩) (.string ⟨#[]⟩) (.int .i64 0) (.int .i64 0) (.int .i64 0) (.int .i64 0) (.int .i64 0) (.int .i64 0) (.int .i64 0) (.int .i64 0) (.int .i64 0) (.int .i64 0) (.int .i64 0) (.int .i64 0))
  generalize put17_14 W11 w.heap.size (.string ⟨#[]⟩) (.string ⟨#[]⟩) (.int .i64 0) (.int .i64 0) (.int .i64 0) (.int .i64 0) (.int .i64 0) (.int .i64 0) (.int .i64 0) (.int .i64 0) (.int .i64 0) (.int .i64 0) (.int .i64 0) (.int .i64 0) = W99 at *
  obtain ⟨r0, r1, r2, r3, r4, r5, r6, r7, r8, r9, r10, r11, r12, r13⟩ := see_block14 F2
  refine bodyPost_ret (v := .tuple #[.agg #[.string ⟨#[]⟩, .string ⟨#[]⟩, .int .i64 0, .int .i64 0, .int .i64 0, .int .i64 0, .int .i64 0, .int .i64 0, .int .i64 0, .int .i64 0, .int .i64 0, .int .i64 0, .int .i64 0, .int .i64 0], .int .i64 2]) (by simp [results, Try.results6, go_sem, r0, r1, r2, r3, r4, r5, r6, r7, r8, r9, r10, r11, r12, r13]) rfl ⟨rfl, F1⟩
set_option maxRecDepth 100000 in
set_option maxHeartbeats 16000000 in
theorem dpar_tx (s : ByteArray) (w : World) (hs : s.size ≤ 200) (X1 : ByteArray) (k1 : Nat) (P1 : Nat) (n1 b1 o : Int) (D1 : ByteArray) (kP1 : k1 ≤ P1) (lP1 : P1 ≤ s.size) (hD1 : s.extract k1 P1 = D1) (hO : IntKind.i64.wrap (0 - n1) = o) (hO3 : IntKind.i64.wrap (-n1) = o) (tP : (P1 == s.size) = false) (tP2 : ((P1 : Int) == (s.size : Int)) = false) (X2 : ByteArray) (k3 : Nat) (a0 : Int) (hA : IntKind.i64.wrap (o + 3600) = a0) (l3 : k3 < s.size) (t44 : ((s[k3].toNat : Int) != 44) = true) (P2 : Nat) (n2 b2 a2 : Int) (D2 : ByteArray) (kP2 : k3 ≤ P2) (lP2 : P2 ≤ s.size) (hD2 : s.extract k3 P2 = D2) (hA2 : IntKind.i64.wrap (0 - n2) = a2) (hA3 : IntKind.i64.wrap (-n2) = a2) (l4 : P2 < s.size) (u44 : ((s[P2].toNat : Int) != 44) = true)
    (HN1 : Hid (∀ w, Calls Try.prog 13 #[.string s, .int .i64 0] w fun x w' => x = .returned (.tuple #[.string X1, .int .i64 (k1 : Int)]) ∧ w = w'))
    (HC1 : Hid (∀ w, Calls Try.prog 14 #[.string s, .int .i64 (k1 : Int)] w fun x w' => x = .returned (.int .i64 (P1 : Int)) ∧ w = w'))
    (HP1 : Hid (∀ w, Calls Try.prog 15 #[.string D1, .int .i64 24] w fun x w' => x = .returned (.tuple #[.int .i64 n1, .int .i64 0]) ∧ Below w.heap.size w w'))
    (HN2 : Hid (∀ w, Calls Try.prog 13 #[.string s, .int .i64 (P1 : Int)] w fun x w' => x = .returned (.tuple #[.string X2, .int .i64 (k3 : Int)]) ∧ w = w'))
    (HC2 : Hid (∀ w, Calls Try.prog 14 #[.string s, .int .i64 (k3 : Int)] w fun x w' => x = .returned (.int .i64 (P2 : Int)) ∧ w = w'))
    (HP2 : Hid (∀ w, Calls Try.prog 15 #[.string D2, .int .i64 24] w fun x w' => x = .returned (.tuple #[.int .i64 n2, .int .i64 0]) ∧ Below w.heap.size w w'))
    : Calls Try.prog 6 #[.string s] w fun xx w' => xx = .returned (.tuple #[.agg #[.string ⟨#[]⟩, .string ⟨#[]⟩, .int .i64 0, .int .i64 0, .int .i64 0, .int .i64 0, .int .i64 0, .int .i64 0, .int .i64 0, .int .i64 0, .int .i64 0, .int .i64 0, .int .i64 0, .int .i64 0], .int .i64 2]) ∧ Below w.heap.size w w' := by
  have S0 := Pg.new w
  obtain ⟨W0, hW0⟩ : ∃ W0, W0 = w.alloc (.cells (#[.string ⟨#[]⟩, .string ⟨#[]⟩, .int .i64 0, .int .i64 0, .int .i64 0, .int .i64 0, .int .i64 0, .int .i64 0, .int .i64 0, .int .i64 0, .int .i64 0, .int .i64 0, .int .i64 0, .int .i64 0] : Array Value) 33) := ⟨_, rfl⟩
  have z0 : W0.heap.size = w.heap.size + 1 := by rw [hW0]; simp
  rw [← hW0] at S0
  obtain ⟨W1, hW1⟩ : ∃ W1, W1 = W0.alloc (.cells (#[.string ⟨#[]⟩, .string ⟨#[]⟩, .int .i64 0, .int .i64 0, .int .i64 0, .int .i64 0, .int .i64 0, .int .i64 0, .int .i64 0, .int .i64 0, .int .i64 0, .int .i64 0, .int .i64 0, .int .i64 0] : Array Value) 33) := ⟨_, rfl⟩
  obtain ⟨q, hq⟩ : ∃ q, q = W0.heap.size := ⟨_, rfl⟩
  rw [← z0, ← hW1, ← hq] at S0
  have S := Lib.hid S0
  clear S0 z0
  go_enter Try.func6, Try.ntmps6
  go_upto_region 1 with fail
  rw [← hW0]; clear hW0
  go_upto_region 2 with fail
  rw [← hq, ← hW1]; clear hq hW1
  obtain ⟨d0, d1, d2, d3, d4, d5, d6, d7, d8, d9, d10, d11, d12, d13, h0, h1, h2, h3, h4, h5, h6, h7, h8, h9, h10, h11, h12, h13⟩ := S.out.see
  have hk1 : decide ((k1 : Int) < 0) = false := decide_eq_false (by omega)
  go_upto_region 6 with (go_at_call 13; with_reducible refine (HN1.out _).mono ?_; rintro x w2 ⟨rfl, rfl⟩)
  obtain ⟨W2, hW2⟩ : ∃ W9, W9 = (W1.setCell ⟨q, 0, none⟩ (.string X1)) := ⟨_, rfl⟩
  have S9 : Pg w (W1.setCell ⟨q, 0, none⟩ (.string X1)) q #[.string X1, .string ⟨#[]⟩, .int .i64 0, .int .i64 0, .int .i64 0, .int .i64 0, .int .i64 0, .int .i64 0, .int .i64 0, .int .i64 0, .int .i64 0, .int .i64 0, .int .i64 0, .int .i64 0] := (S.out.set 0 (.string X1))
  rw [← hW2] at S9
  rw [← hW2]
  replace S := Lib.hid S9
  clear S9 hW2
  obtain ⟨d0, d1, d2, d3, d4, d5, d6, d7, d8, d9, d10, d11, d12, d13, h0, h1, h2, h3, h4, h5, h6, h7, h8, h9, h10, h11, h12, h13⟩ := S.out.see
  go_upto_region 11 with (first
    | (go_at_call 14; with_reducible refine (HC1.out _).mono ?_; rintro x w3 ⟨rfl, rfl⟩)
    | (go_at_call 15; with_reducible refine (HP1.out _).mono ?_; rintro x w4 ⟨rfl, hb⟩; have S := Lib.hid (S.out.keep hb); clear hb; obtain ⟨d0, d1, d2, d3, d4, d5, d6, d7, d8, d9, d10, d11, d12, d13, h0, h1, h2, h3, h4, h5, h6, h7, h8, h9, h10, h11, h12, h13⟩ := S.out.see))
  obtain ⟨W5, hW5⟩ : ∃ W9, W9 = (w4.setCell ⟨q, 2, none⟩ (.int .i64 o)) := ⟨_, rfl⟩
  have S9 : Pg w (w4.setCell ⟨q, 2, none⟩ (.int .i64 o)) q #[.string X1, .string ⟨#[]⟩, .int .i64 o, .int .i64 0, .int .i64 0, .int .i64 0, .int .i64 0, .int .i64 0, .int .i64 0, .int .i64 0, .int .i64 0, .int .i64 0, .int .i64 0, .int .i64 0] := (S.out.set 2 (.int .i64 o))
  rw [← hW5] at S9
  rw [← hW5]
  replace S := Lib.hid S9
  clear S9 hW5
  obtain ⟨d0, d1, d2, d3, d4, d5, d6, d7, d8, d9, d10, d11, d12, d13, h0, h1, h2, h3, h4, h5, h6, h7, h8, h9, h10, h11, h12, h13⟩ := S.out.see
  have hk3 : decide ((k3 : Int) < 0) = false := decide_eq_false (by omega)
  go_upto_region 17 with (go_at_call 13; with_reducible refine (HN2.out _).mono ?_; rintro x w6 ⟨rfl, rfl⟩)
  obtain ⟨W7, hW7⟩ : ∃ W9, W9 = (W5.setCell ⟨q, 1, none⟩ (.string X2)) := ⟨_, rfl⟩
  have S9 : Pg w (W5.setCell ⟨q, 1, none⟩ (.string X2)) q #[.string X1, .string X2, .int .i64 o, .int .i64 0, .int .i64 0, .int .i64 0, .int .i64 0, .int .i64 0, .int .i64 0, .int .i64 0, .int .i64 0, .int .i64 0, .int .i64 0, .int .i64 0] := (S.out.set 1 (.string X2))
  rw [← hW7] at S9
  rw [← hW7]
  replace S := Lib.hid S9
  clear S9 hW7
  obtain ⟨d0, d1, d2, d3, d4, d5, d6, d7, d8, d9, d10, d11, d12, d13, h0, h1, h2, h3, h4, h5, h6, h7, h8, h9, h10, h11, h12, h13⟩ := S.out.see
  go_upto_region 18 with fail
  obtain ⟨W8, hW8⟩ : ∃ W9, W9 = (W7.setCell ⟨q, 3, none⟩ (.int .i64 a0)) := ⟨_, rfl⟩
  have S9 : Pg w (W7.setCell ⟨q, 3, none⟩ (.int .i64 a0)) q #[.string X1, .string X2, .int .i64 o, .int .i64 a0, .int .i64 0, .int .i64 0, .int .i64 0, .int .i64 0, .int .i64 0, .int .i64 0, .int .i64 0, .int .i64 0, .int .i64 0, .int .i64 0] := (S.out.set 3 (.int .i64 a0))
  rw [← hW8] at S9
  rw [← hW8]
  replace S := Lib.hid S9
  clear S9 hW8
  obtain ⟨d0, d1, d2, d3, d4, d5, d6, d7, d8, d9, d10, d11, d12, d13, h0, h1, h2, h3, h4, h5, h6, h7, h8, h9, h10, h11, h12, h13⟩ := S.out.see
  have hl3 : decide (k3 < s.size) = true := decide_eq_true l3
  go_upto_region 24 with (first
    | (go_at_call 14; with_reducible refine (HC2.out _).mono ?_; rintro x w9 ⟨rfl, rfl⟩)
    | (go_at_call 15; with_reducible refine (HP2.out _).mono ?_; rintro x w10 ⟨rfl, hb⟩; have S := Lib.hid (S.out.keep hb); clear hb; obtain ⟨d0, d1, d2, d3, d4, d5, d6, d7, d8, d9, d10, d11, d12, d13, h0, h1, h2, h3, h4, h5, h6, h7, h8, h9, h10, h11, h12, h13⟩ := S.out.see))
  obtain ⟨W11, hW11⟩ : ∃ W9, W9 = (w10.setCell ⟨q, 3, none⟩ (.int .i64 a2)) := ⟨_, rfl⟩
  have S9 : Pg w (w10.setCell ⟨q, 3, none⟩ (.int .i64 a2)) q #[.string X1, .string X2, .int .i64 o, .int .i64 a2, .int .i64 0, .int .i64 0, .int .i64 0, .int .i64 0, .int .i64 0, .int .i64 0, .int .i64 0, .int .i64 0, .int .i64 0, .int .i64 0] := (S.out.set 3 (.int .i64 a2))
  rw [← hW11] at S9
  rw [← hW11]
  replace S := Lib.hid S9
  clear S9 hW11
  obtain ⟨d0, d1, d2, d3, d4, d5, d6, d7, d8, d9, d10, d11, d12, d13, h0, h1, h2, h3, h4, h5, h6, h7, h8, h9, h10, h11, h12, h13⟩ := S.out.see
  go_upto_region 25 with fail
  go_wp2_with fail
  refine wp_loop_rounds 1 ?_
  rw [rounds_succ]
  have hl4 : decide (s.size ≤ P2) = false := decide_eq_false (by omega)
  obtain ⟨p0, p1, p2, p3, p4, p5, p6, p7, p8, p9, p10, p11, p12, p13, g0, g1, g2, g3, g4, g5, g6, g7, g8, g9, g10, g11, g12, g13⟩ := S.out.seep
  go_wp2_with fail
  obtain ⟨F1, F2, -⟩ := set_block14 S.out.res S.out.bel (Nat.le_refl _) (.string ⟨#[]⟩) (.string ⟨#[]⟩) (.int .i64 0) (.int .i64 0) (.int .i64 0) (.int .i64 0) (.int .i64 0) (.int .i64 0) (.int .i64 0) (.int .i64 0) (.int .i64 0) (.int .i64 0) (.int .i64 0) (.int .i64 0)
  show bodyPost _ _ _ _ _ (put17_14 W11 w.heap.size (.string ⟨#[]⟩) (.string ⟨#[]⟩) (.int .i64 0) (.int .i64 0) (.int .i64 0) (.int .i64 0) (.int .i64 0) (.int .i64 0) (.int .i64 0) (.int .i64 0) (.int .i64 0) (.int .i64 0) (.int .i64 0) (.int .i64 0))
  generalize put17_14 W11 w.heap.size (.string ⟨#[]⟩) (.string ⟨#[]⟩) (.int .i64 0) (.int .i64 0) (.int .i64 0) (.int .i64 0) (.int .i64 0) (.int .i64 0) (.int .i64 0) (.int .i64 0) (.int .i64 0) (.int .i64 0) (.int .i64 0) (.int .i64 0) = W99 at *
  obtain ⟨r0, r1, r2, r3, r4, r5, r6, r7, r8, r9, r10, r11, r12, r13⟩ := see_block14 F2
  refine bodyPost_ret (v := .tuple #[.agg #[.string ⟨#[]⟩, .string ⟨#[]⟩, .int .i64 0, .int .i64 0, .int .i64 0, .int .i64 0, .int .i64 0, .int .i64 0, .int .i64 0, .int .i64 0, .int .i64 0, .int .i64 0, .int .i64 0, .int .i64 0], .int .i64 2]) (by simp [results, Try.results6, go_sem, r0, r1, r2, r3, r4, r5, r6, r7, r8, r9, r10, r11, r12, r13]) rfl ⟨rfl, F1⟩
end Go.Proofs.Ytkhcneacjnpcnaa
