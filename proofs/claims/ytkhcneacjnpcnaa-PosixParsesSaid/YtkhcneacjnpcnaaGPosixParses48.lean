/- Merged: PosTb. -/
import Derived.Test.YtkhcneacjnpcnaaGPosixParses46
namespace Go.Proofs.Ytkhcneacjnpcnaa
open Go.RowKit
set_option linter.unusedVariables false
set_option linter.unusedSimpArgs false

set_option maxRecDepth 100000 in
set_option maxHeartbeats 16000000 in
theorem dpar_ug (s : ByteArray) (w : World) (hs : s.size ≤ 200) (X1 : ByteArray) (k1 : Nat) (P1 : Nat) (n1 b1 o : Int) (D1 : ByteArray) (kP1 : k1 ≤ P1) (lP1 : P1 ≤ s.size) (hD1 : s.extract k1 P1 = D1) (hO : IntKind.i64.wrap (0 - n1) = o) (hO3 : IntKind.i64.wrap (-n1) = o) (tP : (P1 == s.size) = false) (tP2 : ((P1 : Int) == (s.size : Int)) = false) (X2 : ByteArray) (k3 : Nat) (a0 : Int) (hA : IntKind.i64.wrap (o + 3600) = a0) (l4 : k3 < s.size) (u44 : ((s[k3].toNat : Int) != 44) = false) (Q1 : Nat) (kQ1 : k3 + 1 ≤ Q1) (R1 : ByteArray) (K1 M1 D3 A1 C1 e1 : Int) (hR1 : s.extract (k3 + 1) Q1 = R1) (lQ1 : Q1 ≤ s.size) (te1 : (e1 != 0) = true)
    (HN1 : Hid (∀ w, Calls Try.prog 13 #[.string s, .int .i64 0] w fun x w' => x = .returned (.tuple #[.string X1, .int .i64 (k1 : Int)]) ∧ w = w'))
    (HC1 : Hid (∀ w, Calls Try.prog 14 #[.string s, .int .i64 (k1 : Int)] w fun x w' => x = .returned (.int .i64 (P1 : Int)) ∧ w = w'))
    (HP1 : Hid (∀ w, Calls Try.prog 15 #[.string D1, .int .i64 24] w fun x w' => x = .returned (.tuple #[.int .i64 n1, .int .i64 0]) ∧ Below w.heap.size w w'))
    (HN2 : Hid (∀ w, Calls Try.prog 13 #[.string s, .int .i64 (P1 : Int)] w fun x w' => x = .returned (.tuple #[.string X2, .int .i64 (k3 : Int)]) ∧ w = w'))
    (HA1 : Hid (∀ j (h : j < s.size), k3 + 1 ≤ j → j < Q1 → ((s[j].toNat : Int) != 44) = true)) (HZ1 : Hid (∀ h : Q1 < s.size, ((s[Q1].toNat : Int) != 44) = false))
    (HR1 : Hid (∀ w, Calls Try.prog 16 #[.string R1] w fun x w' => x = .returned (.tuple #[.agg #[.int .i64 K1, .int .i64 M1, .int .i64 D3, .int .i64 A1, .int .i64 C1], .int .i64 e1]) ∧ Below w.heap.size w w'))
    : Calls Try.prog 6 #[.string s] w fun xx w' => xx = .returned (.tuple #[.agg #[.string ⟨#[]⟩, .string ⟨#[]⟩, .int .i64 0, .int .i64 0, .int .i64 0, .int .i64 0, .int .i64 0, .int .i64 0, .int .i64 0, .int .i64 0, .int .i64 0, .int .i64 0, .int .i64 0, .int .i64 0], .int .i64 e1]) ∧ Below w.heap.size w w' := by
  have S0 := Pg.new w
  obtain ⟨W0, hW0⟩ : ∃ W0, W0 = w.alloc (.cells (#[.string ⟨#[]⟩, .string ⟨#[]⟩, .int .i64 0, .int .i64 0, .int .i64 0, .int .i64 0, .int .i64 0, .int .i64 0, .int .i64 0, .int .i64 0, .int .i64 0, .int .i64 0, .int .i64 0, .int .i64 0] : Array Value) 33) := ⟨_, rfl⟩
  have z0 : W0.heap.size = w.heap.size + 1 := by rw [hW0]; simp
  rw [← hW0] at S0
  obtain ⟨W1, hW1⟩ : ∃ W1, W1 = W0.alloc (.cells (#[.string ⟨#[]⟩, .string ⟨#[]⟩, .int .i64 0, .int .i64 0, .int .i64 0, .int .i64 0, .int .i64 0, .int .i64 0, .int .i64 0, .int .i64 0, .int .i64 0, .int .i64 0, .int .i64 0, .int .i64 0] : Array Value) 33) := ⟨_, rfl⟩
  obtain ⟨q, hq⟩ : ∃ q, q = W0.heap.size := ⟨_, rfl⟩
  rw [← z0, ← hW1, ← hq] at S0
  have S := Lib.hid S0
  clear S0 z0
  go_enter Try.func6, Try.ntmps6
  go_upto_region 1 with fail
  rw [← hW0]; clear hW0
  go_upto_region 2 with fail
  rw [← hq, ← hW1]; clear hq hW1
  obtain ⟨d0, d1, d2, d3, d4, d5, d6, d7, d8, d9, d10, d11, d12, d13, h0, h1, h2, h3, h4, h5, h6, h7, h8, h9, h10, h11, h12, h13⟩ := S.out.see
  have hk1 : decide ((k1 : Int) < 0) = false := decide_eq_false (by omega)
  go_upto_region 6 with (go_at_call 13; with_reducible refine (HN1.out _).mono ?_; rintro x w2 ⟨rfl, rfl⟩)
  obtain ⟨W2, hW2⟩ : ∃ W9, W9 = (W1.setCell ⟨q, 0, none⟩ (.string X1)) := ⟨_, rfl⟩
  have S9 : Pg w (W1.setCell ⟨q, 0, none⟩ (.string X1)) q #[.string X1, .string ⟨#[]⟩, .int .i64 0, .int .i64 0, .int .i64 0, .int .i64 0, .int .i64 0, .int .i64 0, .int .i64 0, .int .i64 0, .int .i64 0, .int .i64 0, .int .i64 0, .int .i64 0] := (S.out.set 0 (.string X1))
  rw [← hW2] at S9
  rw [← hW2]
  replace S := Lib.hid S9
  clear S9 hW2
  obtain ⟨d0, d1, d2, d3, d4, d5, d6, d7, d8, d9, d10, d11, d12, d13, h0, h1, h2, h3, h4, h5, h6, h7, h8, h9, h10, h11, h12, h13⟩ := S.out.see
  go_upto_region 11 with (first
    | (go_at_call 14; with_reducible refine (HC1.out _).mono ?_; rintro x w3 ⟨rfl, rfl⟩)
    | (go_at_call 15; with_reducible refine (HP1.out _).mono ?_; rintro x w4 ⟨rfl, hb⟩; have S := Lib.hid (S.out.keep hb); clear hb; obtain ⟨d0, d1, d2, d3, d4, d5, d6, d7, d8, d9, d10, d11, d12, d13, h0, h1, h2, h3, h4, h5, h6, h7, h8, h9, h10, h11, h12, h13⟩ := S.out.see))
  obtain ⟨W5, hW5⟩ : ∃ W9, W9 = (w4.setCell ⟨q, 2, none⟩ (.int .i64 o)) := ⟨_, rfl⟩
  have S9 : Pg w (w4.setCell ⟨q, 2, none⟩ (.int .i64 o)) q #[.string X1, .string ⟨#[]⟩, .int .i64 o, .int .i64 0, .int .i64 0, .int .i64 0, .int .i64 0, .int .i64 0, .int .i64 0, .int .i64 0, .int .i64 0, .int .i64 0, .int .i64 0, .int .i64 0] := (S.out.set 2 (.int .i64 o))
  rw [← hW5] at S9
  rw [← hW5]
  replace S := Lib.hid S9
  clear S9 hW5
  obtain ⟨d0, d1, d2, d3, d4, d5, d6, d7, d8, d9, d10, d11, d12, d13, h0, h1, h2, h3, h4, h5, h6, h7, h8, h9, h10, h11, h12, h13⟩ := S.out.see
  have hk3 : decide ((k3 : Int) < 0) = false := decide_eq_false (by omega)
  go_upto_region 17 with (go_at_call 13; with_reducible refine (HN2.out _).mono ?_; rintro x w6 ⟨rfl, rfl⟩)
  obtain ⟨W7, hW7⟩ : ∃ W9, W9 = (W5.setCell ⟨q, 1, none⟩ (.string X2)) := ⟨_, rfl⟩
  have S9 : Pg w (W5.setCell ⟨q, 1, none⟩ (.string X2)) q #[.string X1, .string X2, .int .i64 o, .int .i64 0, .int .i64 0, .int .i64 0, .int .i64 0, .int .i64 0, .int .i64 0, .int .i64 0, .int .i64 0, .int .i64 0, .int .i64 0, .int .i64 0] := (S.out.set 1 (.string X2))
  rw [← hW7] at S9
  rw [← hW7]
  replace S := Lib.hid S9
  clear S9 hW7
  obtain ⟨d0, d1, d2, d3, d4, d5, d6, d7, d8, d9, d10, d11, d12, d13, h0, h1, h2, h3, h4, h5, h6, h7, h8, h9, h10, h11, h12, h13⟩ := S.out.see
  go_upto_region 18 with fail
  obtain ⟨W8, hW8⟩ : ∃ W9, W9 = (W7.setCell ⟨q, 3, none⟩ (.int .i64 a0)) := ⟨_, rfl⟩
  have S9 : Pg w (W7.setCell ⟨q, 3, none⟩ (.int .i64 a0)) q #[.string X1, .string X2, .int .i64 o, .int .i64 a0, .int .i64 0, .int .i64 0, .int .i64 0, .int .i64 0, .int .i64 0, .int .i64 0, .int .i64 0, .int .i64 0, .int .i64 0, .int .i64 0] := (S.out.set 3 (.int .i64 a0))
  rw [← hW8] at S9
  rw [← hW8]
  replace S := Lib.hid S9
  clear S9 hW8
  obtain ⟨d0, d1, d2, d3, d4, d5, d6, d7, d8, d9, d10, d11, d12, d13, h0, h1, h2, h3, h4, h5, h6, h7, h8, h9, h10, h11, h12, h13⟩ := S.out.see
  have hl3 : decide (k3 < s.size) = true := decide_eq_true l4
  go_upto_region 25 with fail
  go_wp2_with fail
  refine wp_loop_rounds 1 ?_
  rw [rounds_succ]
  have hl4 : decide (s.size ≤ k3) = false := decide_eq_false (by omega)
  go_upto_region 32 with fail
  go_loop [7] (fun v => ∃ j : Nat, k3 + 1 ≤ j ∧ j ≤ Q1 ∧ v = .int .i64 j) (fun v => Q1 - (intOf v).toNat)
  case atStart => exact ⟨k3 + 1, Nat.le_refl _, kQ1, by go_num⟩
  case round =>
    obtain ⟨j, h1j, h2j, rfl⟩ := hrel
    by_cases hj : j < Q1
    · have hlt : j < s.size := by omega
      have hlt2 : decide (j < s.size) = true := decide_eq_true hlt
      have hc := HA1.out j hlt h1j hj
      go_wp2_with fail
      go_round
      case rel => exact ⟨j + 1, by omega, by omega, by go_num⟩
      case measure => simp [intOf]; omega
    · obtain rfl : Q1 = j := by omega
      clear hj h1j h2j
      rcases Nat.lt_or_ge Q1 s.size with hz | hz
      · skip
        have hlt2 : decide (Q1 < s.size) = true := decide_eq_true (by omega)
        have hc := HZ1.out (by omega)
        go_upto_region 35 with (go_at_call 16; with_reducible refine (HR1.out _).mono ?_; rintro x w12 ⟨rfl, hb⟩; have S := Lib.hid (S.out.keep hb); clear hb; obtain ⟨d0, d1, d2, d3, d4, d5, d6, d7, d8, d9, d10, d11, d12, d13, h0, h1, h2, h3, h4, h5, h6, h7, h8, h9, h10, h11, h12, h13⟩ := S.out.see)
        have sb := S.out.keep (bel16 w12 (.cells #[.int .i64 K1, .int .i64 M1, .int .i64 D3, .int .i64 A1, .int .i64 C1] 31))
        have nb : (w12.alloc (.cells #[.int .i64 K1, .int .i64 M1, .int .i64 D3, .int .i64 A1, .int .i64 C1] 31)).heap[w12.heap.size]? = some (.cells #[.int .i64 K1, .int .i64 M1, .int .i64 D3, .int .i64 A1, .int .i64 C1] 31 (0, 0)) := heap_alloc_new w12 _
        obtain ⟨x, hx⟩ : ∃ x, x = w12.heap.size := ⟨_, rfl⟩
        obtain ⟨Wb1, hWb1⟩ : ∃ W9, W9 = w12.alloc (.cells #[.int .i64 K1, .int .i64 M1, .int .i64 D3, .int .i64 A1, .int .i64 C1] 31) := ⟨_, rfl⟩
        rw [← hWb1] at sb nb
        rw [← hx] at nb
        rw [← hWb1, ← hx]
        replace S := Lib.hid sb
        obtain ⟨x0, x1, x2, x3, x4⟩ : Wb1.cell? ⟨x, 0, none⟩ = some (.int .i64 K1) ∧ Wb1.cell? ⟨x, 1, none⟩ = some (.int .i64 M1) ∧ Wb1.cell? ⟨x, 2, none⟩ = some (.int .i64 D3) ∧ Wb1.cell? ⟨x, 3, none⟩ = some (.int .i64 A1) ∧ Wb1.cell? ⟨x, 4, none⟩ = some (.int .i64 C1) := ⟨bk_cell nb 0, bk_cell nb 1, bk_cell nb 2, bk_cell nb 3, bk_cell nb 4⟩
        clear sb nb hx hWb1
        obtain ⟨d0, d1, d2, d3, d4, d5, d6, d7, d8, d9, d10, d11, d12, d13, h0, h1, h2, h3, h4, h5, h6, h7, h8, h9, h10, h11, h12, h13⟩ := S.out.see
        obtain ⟨p0, p1, p2, p3, p4, p5, p6, p7, p8, p9, p10, p11, p12, p13, g0, g1, g2, g3, g4, g5, g6, g7, g8, g9, g10, g11, g12, g13⟩ := S.out.seep
        go_wp2_with fail
        obtain ⟨F1, F2, -⟩ := set_block14 S.out.res S.out.bel (Nat.le_refl _) (.string ⟨#[]⟩) (.string ⟨#[]⟩) (.int .i64 0) (.int .i64 0) (.int .i64 0) (.int .i64 0) (.int .i64 0) (.int .i64 0) (.int .i64 0) (.int .i64 0) (.int .i64 0) (.int .i64 0) (.int .i64 0) (.int .i64 0)
        show bodyPost _ _ _ _ _ (put17_14 Wb1 w.heap.size (.string ⟨#[]⟩) (.string ⟨#[]⟩) (.int .i64 0) (.int .i64 0) (.int .i64 0) (.int .i64 0) (.int .i64 0) (.int .i64 0) (.int .i64 0) (.int .i64 0) (.int .i64 0) (.int .i64 0) (.int .i64 0) (.int .i64 0))
        generalize put17_14 Wb1 w.heap.size (.string ⟨#[]⟩) (.string ⟨#[]⟩) (.int .i64 0) (.int .i64 0) (.int .i64 0) (.int .i64 0) (.int .i64 0) (.int .i64 0) (.int .i64 0) (.int .i64 0) (.int .i64 0) (.int .i64 0) (.int .i64 0) (.int .i64 0) = W99 at *
        obtain ⟨r0, r1, r2, r3, r4, r5, r6, r7, r8, r9, r10, r11, r12, r13⟩ := see_block14 F2
        refine bodyPost_ret (v := .tuple #[.agg #[.string ⟨#[]⟩, .string ⟨#[]⟩, .int .i64 0, .int .i64 0, .int .i64 0, .int .i64 0, .int .i64 0, .int .i64 0, .int .i64 0, .int .i64 0, .int .i64 0, .int .i64 0, .int .i64 0, .int .i64 0], .int .i64 e1]) (by simp [results, Try.results6, go_sem, r0, r1, r2, r3, r4, r5, r6, r7, r8, r9, r10, r11, r12, r13]) rfl ⟨rfl, F1⟩
      · skip
        have hlt2 : decide (Q1 < s.size) = false := decide_eq_false (by omega)
        go_upto_region 35 with (go_at_call 16; with_reducible refine (HR1.out _).mono ?_; rintro x w12 ⟨rfl, hb⟩; have S := Lib.hid (S.out.keep hb); clear hb; obtain ⟨d0, d1, d2, d3, d4, d5, d6, d7, d8, d9, d10, d11, d12, d13, h0, h1, h2, h3, h4, h5, h6, h7, h8, h9, h10, h11, h12, h13⟩ := S.out.see)
        have sb := S.out.keep (bel16 w12 (.cells #[.int .i64 K1, .int .i64 M1, .int .i64 D3, .int .i64 A1, .int .i64 C1] 31))
        have nb : (w12.alloc (.cells #[.int .i64 K1, .int .i64 M1, .int .i64 D3, .int .i64 A1, .int .i64 C1] 31)).heap[w12.heap.size]? = some (.cells #[.int .i64 K1, .int .i64 M1, .int .i64 D3, .int .i64 A1, .int .i64 C1] 31 (0, 0)) := heap_alloc_new w12 _
        obtain ⟨x, hx⟩ : ∃ x, x = w12.heap.size := ⟨_, rfl⟩
        obtain ⟨Wb1, hWb1⟩ : ∃ W9, W9 = w12.alloc (.cells #[.int .i64 K1, .int .i64 M1, .int .i64 D3, .int .i64 A1, .int .i64 C1] 31) := ⟨_, rfl⟩
        rw [← hWb1] at sb nb
        rw [← hx] at nb
        rw [← hWb1, ← hx]
        replace S := Lib.hid sb
        obtain ⟨x0, x1, x2, x3, x4⟩ : Wb1.cell? ⟨x, 0, none⟩ = some (.int .i64 K1) ∧ Wb1.cell? ⟨x, 1, none⟩ = some (.int .i64 M1) ∧ Wb1.cell? ⟨x, 2, none⟩ = some (.int .i64 D3) ∧ Wb1.cell? ⟨x, 3, none⟩ = some (.int .i64 A1) ∧ Wb1.cell? ⟨x, 4, none⟩ = some (.int .i64 C1) := ⟨bk_cell nb 0, bk_cell nb 1, bk_cell nb 2, bk_cell nb 3, bk_cell nb 4⟩
        clear sb nb hx hWb1
        obtain ⟨d0, d1, d2, d3, d4, d5, d6, d7, d8, d9, d10, d11, d12, d13, h0, h1, h2, h3, h4, h5, h6, h7, h8, h9, h10, h11, h12, h13⟩ := S.out.see
        obtain ⟨p0, p1, p2, p3, p4, p5, p6, p7, p8, p9, p10, p11, p12, p13, g0, g1, g2, g3, g4, g5, g6, g7, g8, g9, g10, g11, g12, g13⟩ := S.out.seep
        go_wp2_with fail
        obtain ⟨F1, F2, -⟩ := set_block14 S.out.res S.out.bel (Nat.le_refl _) (.string ⟨#[]⟩) (.string ⟨#[]⟩) (.int .i64 0) (.int .i64 0) (.int .i64 0) (.int .i64 0) (.int .i64 0) (.int .i64 0) (.int .i64 0) (.int .i64 0) (.int .i64 0) (.int .i64 0) (.int .i64 0) (.int .i64 0)
        show bodyPost _ _ _ _ _ (put17_14 Wb1 w.heap.size (.string ⟨#[]⟩) (.string ⟨#[]⟩) (.int .i64 0) (.int .i64 0) (.int .i64 0) (.int .i64 0) (.int .i64 0) (.int .i64 0) (.int .i64 0) (.int .i64 0) (.int .i64 0) (.int .i64 0) (.int .i64 0) (.int .i64 0))
        generalize put17_14 Wb1 w.heap.size (.string ⟨#[]⟩) (.string ⟨#[]⟩) (.int .i64 0) (.int .i64 0) (.int .i64 0) (.int .i64 0) (.int .i64 0) (.int .i64 0) (.int .i64 0) (.int .i64 0) (.int .i64 0) (.int .i64 0) (.int .i64 0) (.int .i64 0) = W99 at *
        obtain ⟨r0, r1, r2, r3, r4, r5, r6, r7, r8, r9, r10, r11, r12, r13⟩ := see_block14 F2
        refine bodyPost_ret (v := .tuple #[.agg #[.string ⟨#[]⟩, .string ⟨#[]⟩, .int .i64 0, .int .i64 0, .int .i64 0, .int .i64 0, .int .i64 0, .int .i64 0, .int .i64 0, .int .i64 0, .int .i64 0, .int .i64 0, .int .i64 0, .int .i64 0], .int .i64 e1]) (by simp [results, Try.results6, go_sem, r0, r1, r2, r3, r4, r5, r6, r7, r8, r9, r10, r11, r12, r13]) rfl ⟨rfl, F1⟩
set_option maxRecDepth 100000 in
set_option maxHeartbeats 16000000 in
theorem dpar_uh (s : ByteArray) (w : World) (hs : s.size ≤ 200) (X1 : ByteArray) (k1 : Nat) (P1 : Nat) (n1 b1 o : Int) (D1 : ByteArray) (kP1 : k1 ≤ P1) (lP1 : P1 ≤ s.size) (hD1 : s.extract k1 P1 = D1) (hO : IntKind.i64.wrap (0 - n1) = o) (hO3 : IntKind.i64.wrap (-n1) = o) (tP : (P1 == s.size) = false) (tP2 : ((P1 : Int) == (s.size : Int)) = false) (X2 : ByteArray) (k3 : Nat) (a0 : Int) (hA : IntKind.i64.wrap (o + 3600) = a0) (l4 : k3 < s.size) (u44 : ((s[k3].toNat : Int) != 44) = false) (Q1 : Nat) (kQ1 : k3 + 1 ≤ Q1) (R1 : ByteArray) (K1 M1 D3 A1 C1 e1 : Int) (hR1 : s.extract (k3 + 1) Q1 = R1) (lQ1 : Q1 ≤ s.size) (lR1 : s.size ≤ Q1)
    (HN1 : Hid (∀ w, Calls Try.prog 13 #[.string s, .int .i64 0] w fun x w' => x = .returned (.tuple #[.string X1, .int .i64 (k1 : Int)]) ∧ w = w'))
    (HC1 : Hid (∀ w, Calls Try.prog 14 #[.string s, .int .i64 (k1 : Int)] w fun x w' => x = .returned (.int .i64 (P1 : Int)) ∧ w = w'))
    (HP1 : Hid (∀ w, Calls Try.prog 15 #[.string D1, .int .i64 24] w fun x w' => x = .returned (.tuple #[.int .i64 n1, .int .i64 0]) ∧ Below w.heap.size w w'))
    (HN2 : Hid (∀ w, Calls Try.prog 13 #[.string s, .int .i64 (P1 : Int)] w fun x w' => x = .returned (.tuple #[.string X2, .int .i64 (k3 : Int)]) ∧ w = w'))
    (HA1 : Hid (∀ j (h : j < s.size), k3 + 1 ≤ j → j < Q1 → ((s[j].toNat : Int) != 44) = true)) (HZ1 : Hid (∀ h : Q1 < s.size, ((s[Q1].toNat : Int) != 44) = false))
    (HR1 : Hid (∀ w, Calls Try.prog 16 #[.string R1] w fun x w' => x = .returned (.tuple #[.agg #[.int .i64 K1, .int .i64 M1, .int .i64 D3, .int .i64 A1, .int .i64 C1], .int .i64 0]) ∧ Below w.heap.size w w'))
    : Calls Try.prog 6 #[.string s] w fun xx w' => xx = .returned (.tuple #[.agg #[.string ⟨#[]⟩, .string ⟨#[]⟩, .int .i64 0, .int .i64 0, .int .i64 0, .int .i64 0, .int .i64 0, .int .i64 0, .int .i64 0, .int .i64 0, .int .i64 0, .int .i64 0, .int .i64 0, .int .i64 0], .int .i64 2]) ∧ Below w.heap.size w w' := by
  have S0 := Pg.new w
  obtain ⟨W0, hW0⟩ : ∃ W0, W0 = w.alloc (.cells (#[.string ⟨#[]⟩, .string ⟨#[]⟩, .int .i64 0, .int .i64 0, .int .i64 0, .int .i64 0, .int .i64 0, .int .i64 0, .int .i64 0, .int .i64 0, .int .i64 0, .int .i64 0, .int .i64 0, .int .i64 0] : Array Value) 33) := ⟨_, rfl⟩
  have z0 : W0.heap.size = w.heap.size + 1 := by rw [hW0]; simp
  rw [← hW0] at S0
  obtain ⟨W1, hW1⟩ : ∃ W1, W1 = W0.alloc (.cells (#[.string ⟨#[]⟩, .string ⟨#[]⟩, .int .i64 0, .int .i64 0, .int .i64 0, .int .i64 0, .int .i64 0, .int .i64 0, .int .i64 0, .int .i64 0, .int .i64 0, .int .i64 0, .int .i64 0, .int .i64 0] : Array Value) 33) := ⟨_, rfl⟩
  obtain ⟨q, hq⟩ : ∃ q, q = W0.heap.size := ⟨_, rfl⟩
  rw [← z0, ← hW1, ← hq] at S0
  have S := Lib.hid S0
  clear S0 z0
  go_enter Try.func6, Try.ntmps6
  go_upto_region 1 with fail
  rw [← hW0]; clear hW0
  go_upto_region 2 with fail
  rw [← hq, ← hW1]; clear hq hW1
  obtain ⟨d0, d1, d2, d3, d4, d5, d6, d7, d8, d9, d10, d11, d12, d13, h0, h1, h2, h3, h4, h5, h6, h7, h8, h9, h10, h11, h12, h13⟩ := S.out.see
  have hk1 : decide ((k1 : Int) < 0) = false := decide_eq_false (by omega)
  go_upto_region 6 with (go_at_call 13; with_reducible refine (HN1.out _).mono ?_; rintro x w2 ⟨rfl, rfl⟩)
  obtain ⟨W2, hW2⟩ : ∃ W9, W9 = (W1.setCell ⟨q, 0, none⟩ (.string X1)) := ⟨_, rfl⟩
  have S9 : Pg w (W1.setCell ⟨q, 0, none⟩ (.string X1)) q #[.string X1, .string ⟨#[]⟩, .int .i64 0, .int .i64 0, .int .i64 0, .int .i64 0, .int .i64 0, .int .i64 0, .int .i64 0, .int .i64 0, .int .i64 0, .int .i64 0, .int .i64 0, .int .i64 0] := (S.out.set 0 (.string X1))
  rw [← hW2] at S9
  rw [← hW2]
  replace S := Lib.hid S9
  clear S9 hW2
  obtain ⟨d0, d1, d2, d3, d4, d5, d6, d7, d8, d9, d10, d11, d12, d13, h0, h1, h2, h3, h4, h5, h6, h7, h8, h9, h10, h11, h12, h13⟩ := S.out.see
  go_upto_region 11 with (first
    | (go_at_call 14; with_reducible refine (HC1.out _).mono ?_; rintro x w3 ⟨rfl, rfl⟩)
    | (go_at_call 15; with_reducible refine (HP1.out _).mono ?_; rintro x w4 ⟨rfl, hb⟩; have S := Lib.hid (S.out.keep hb); clear hb; obtain ⟨d0, d1, d2, d3, d4, d5, d6, d7, d8, d9, d10, d11, d12, d13, h0, h1, h2, h3, h4, h5, h6, h7, h8, h9, h10, h11, h12, h13⟩ := S.out.see))
  obtain ⟨W5, hW5⟩ : ∃ W9, W9 = (w4.setCell ⟨q, 2, none⟩ (.int .i64 o)) := ⟨_, rfl⟩
  have S9 : Pg w (w4.setCell ⟨q, 2, none⟩ (.int .i64 o)) q #[.string X1, .string ⟨#[]⟩, .int .i64 o, .int .i64 0, .int .i64 0, .int .i64 0, .int .i64 0, .int .i64 0, .int .i64 0, .int .i64 0, .int .i64 0, .int .i64 0, .int .i64 0, .int .i64 0] := (S.out.set 2 (.int .i64 o))
  rw [← hW5] at S9
  rw [← hW5]
  replace S := Lib.hid S9
  clear S9 hW5
  obtain ⟨d0, d1, d2, d3, d4, d5, d6, d7, d8, d9, d10, d11, d12, d13, h0, h1, h2, h3, h4, h5, h6, h7, h8, h9, h10, h11, h12, h13⟩ := S.out.see
  have hk3 : decide ((k3 : Int) < 0) = false := decide_eq_false (by omega)
  go_upto_region 17 with (go_at_call 13; with_reducible refine (HN2.out _).mono ?_; rintro x w6 ⟨rfl, rfl⟩)
  obtain ⟨W7, hW7⟩ : ∃ W9, W9 = (W5.setCell ⟨q, 1, none⟩ (.string X2)) := ⟨_, rfl⟩
  have S9 : Pg w (W5.setCell ⟨q, 1, none⟩ (.string X2)) q #[.string X1, .string X2, .int .i64 o, .int .i64 0, .int .i64 0, .int .i64 0, .int .i64 0, .int .i64 0, .int .i64 0, .int .i64 0, .int .i64 0, .int .i64 0, .int .i64 0, .int .i64 0] := (S.out.set 1 (.string X2))
  rw [← hW7] at S9
  rw [← hW7]
  replace S := Lib.hid S9
  clear S9 hW7
  obtain ⟨d0, d1, d2, d3, d4, d5, d6, d7, d8, d9, d10, d11, d12, d13, h0, h1, h2, h3, h4, h5, h6, h7, h8, h9, h10, h11, h12, h13⟩ := S.out.see
  go_upto_region 18 with fail
  obtain ⟨W8, hW8⟩ : ∃ W9, W9 = (W7.setCell ⟨q, 3, none⟩ (.int .i64 a0)) := ⟨_, rfl⟩
  have S9 : Pg w (W7.setCell ⟨q, 3, none⟩ (.int .i64 a0)) q #[.string X1, .string X2, .int .i64 o, .int .i64 a0, .int .i64 0, .int .i64 0, .int .i64 0, .int .i64 0, .int .i64 0, .int .i64 0, .int .i64 0, .int .i64 0, .int .i64 0, .int .i64 0] := (S.out.set 3 (.int .i64 a0))
  rw [← hW8] at S9
  rw [← hW8]
  replace S := Lib.hid S9
  clear S9 hW8
  obtain ⟨d0, d1, d2, d3, d4, d5, d6, d7, d8, d9, d10, d11, d12, d13, h0, h1, h2, h3, h4, h5, h6, h7, h8, h9, h10, h11, h12, h13⟩ := S.out.see
  have hl3 : decide (k3 < s.size) = true := decide_eq_true l4
  go_upto_region 25 with fail
  go_wp2_with fail
  refine wp_loop_rounds 2 ?_
  rw [rounds_succ]
  have hl4 : decide (s.size ≤ k3) = false := decide_eq_false (by omega)
  go_upto_region 32 with fail
  go_loop [7] (fun v => ∃ j : Nat, k3 + 1 ≤ j ∧ j ≤ Q1 ∧ v = .int .i64 j) (fun v => Q1 - (intOf v).toNat)
  case atStart => exact ⟨k3 + 1, Nat.le_refl _, kQ1, by go_num⟩
  case round =>
    obtain ⟨j, h1j, h2j, rfl⟩ := hrel
    by_cases hj : j < Q1
    · have hlt : j < s.size := by omega
      have hlt2 : decide (j < s.size) = true := decide_eq_true hlt
      have hc := HA1.out j hlt h1j hj
      go_wp2_with fail
      go_round
      case rel => exact ⟨j + 1, by omega, by omega, by go_num⟩
      case measure => simp [intOf]; omega
    · obtain rfl : Q1 = j := by omega
      clear hj h1j h2j
      have hlt2 : decide (Q1 < s.size) = false := decide_eq_false (by omega)
      go_upto_region 35 with (go_at_call 16; with_reducible refine (HR1.out _).mono ?_; rintro x w12 ⟨rfl, hb⟩; have S := Lib.hid (S.out.keep hb); clear hb; obtain ⟨d0, d1, d2, d3, d4, d5, d6, d7, d8, d9, d10, d11, d12, d13, h0, h1, h2, h3, h4, h5, h6, h7, h8, h9, h10, h11, h12, h13⟩ := S.out.see)
      have sb := S.out.keep (bel16 w12 (.cells #[.int .i64 K1, .int .i64 M1, .int .i64 D3, .int .i64 A1, .int .i64 C1] 31))
      have nb : (w12.alloc (.cells #[.int .i64 K1, .int .i64 M1, .int .i64 D3, .int .i64 A1, .int .i64 C1] 31)).heap[w12.heap.size]? = some (.cells #[.int .i64 K1, .int .i64 M1, .int .i64 D3, .int .i64 A1, .int .i64 C1] 31 (0, 0)) := heap_alloc_new w12 _
      obtain ⟨x, hx⟩ : ∃ x, x = w12.heap.size := ⟨_, rfl⟩
      obtain ⟨Wb1, hWb1⟩ : ∃ W9, W9 = w12.alloc (.cells #[.int .i64 K1, .int .i64 M1, .int .i64 D3, .int .i64 A1, .int .i64 C1] 31) := ⟨_, rfl⟩
      rw [← hWb1] at sb nb
      rw [← hx] at nb
      rw [← hWb1, ← hx]
      replace S := Lib.hid sb
      obtain ⟨x0, x1, x2, x3, x4⟩ : Wb1.cell? ⟨x, 0, none⟩ = some (.int .i64 K1) ∧ Wb1.cell? ⟨x, 1, none⟩ = some (.int .i64 M1) ∧ Wb1.cell? ⟨x, 2, none⟩ = some (.int .i64 D3) ∧ Wb1.cell? ⟨x, 3, none⟩ = some (.int .i64 A1) ∧ Wb1.cell? ⟨x, 4, none⟩ = some (.int .i64 C1) := ⟨bk_cell nb 0, bk_cell nb 1, bk_cell nb 2, bk_cell nb 3, bk_cell nb 4⟩
      clear sb nb hx hWb1
      obtain ⟨d0, d1, d2, d3, d4, d5, d6, d7, d8, d9, d10, d11, d12, d13, h0, h1, h2, h3, h4, h5, h6, h7, h8, h9, h10, h11, h12, h13⟩ := S.out.see
      go_upto_region 40 with fail
      obtain ⟨Wc1, hWc1⟩ : ∃ W9, W9 = (((((Wb1.setCell ⟨q, 4, none⟩ (.int .i64 K1)).setCell ⟨q, 5, none⟩ (.int .i64 M1)).setCell ⟨q, 6, none⟩ (.int .i64 D3)).setCell ⟨q, 7, none⟩ (.int .i64 A1)).setCell ⟨q, 8, none⟩ (.int .i64 C1)) := ⟨_, rfl⟩
      have S9 : Pg w (((((Wb1.setCell ⟨q, 4, none⟩ (.int .i64 K1)).setCell ⟨q, 5, none⟩ (.int .i64 M1)).setCell ⟨q, 6, none⟩ (.int .i64 D3)).setCell ⟨q, 7, none⟩ (.int .i64 A1)).setCell ⟨q, 8, none⟩ (.int .i64 C1)) q #[.string X1, .string X2, .int .i64 o, .int .i64 a0, .int .i64 K1, .int .i64 M1, .int .i64 D3, .int .i64 A1, .int .i64 C1, .int .i64 0, .int .i64 0, .int .i64 0, .int .i64 0, .int .i64 0] := (((((S.out.set 4 (.int .i64 K1)).set 5 (.int .i64 M1)).set 6 (.int .i64 D3)).set 7 (.int .i64 A1)).set 8 (.int .i64 C1))
      rw [← hWc1] at S9
      rw [← hWc1]
      replace S := Lib.hid S9
      clear S9 hWc1
      obtain ⟨d0, d1, d2, d3, d4, d5, d6, d7, d8, d9, d10, d11, d12, d13, h0, h1, h2, h3, h4, h5, h6, h7, h8, h9, h10, h11, h12, h13⟩ := S.out.see
      clear x0 x1 x2 x3 x4
      clear hlt2
      go_wp2_with fail
      rw [rounds_succ]
      have hl5 : decide (s.size ≤ Q1) = true := decide_eq_true (by omega)
      obtain ⟨p0, p1, p2, p3, p4, p5, p6, p7, p8, p9, p10, p11, p12, p13, g0, g1, g2, g3, g4, g5, g6, g7, g8, g9, g10, g11, g12, g13⟩ := S.out.seep
      go_wp2_with fail
      obtain ⟨F1, F2, -⟩ := set_block14 S.out.res S.out.bel (Nat.le_refl _) (.string ⟨#[]⟩) (.string ⟨#[]⟩) (.int .i64 0) (.int .i64 0) (.int .i64 0) (.int .i64 0) (.int .i64 0) (.int .i64 0) (.int .i64 0) (.int .i64 0) (.int .i64 0) (.int .i64 0) (.int .i64 0) (.int .i64 0)
      show bodyPost _ _ _ _ _ (put17_14 Wc1 w.heap.size (.string ⟨#[]⟩) (.string ⟨#[]⟩) (.int .i64 0) (.int .i64 0) (.int .i64 0) (.int .i64 0) (.int .i64 0) (.int .i64 0) (.int .i64 0) (.int .i64 0) (.int .i64 0) (.int .i64 0) (.int .i64 0) (.int .i64 0))
      generalize put17_14 Wc1 w.heap.size (.string ⟨#[]⟩) (.string ⟨#[]⟩) (.int .i64 0) (.int .i64 0) (.int .i64 0) (.int .i64 0) (.int .i64 0) (.int .i64 0) (.int .i64 0) (.int .i64 0) (.int .i64 0) (.int .i64 0) (.int .i64 0) (.int .i64 0) = W99 at *
      obtain ⟨r0, r1, r2, r3, r4, r5, r6, r7, r8, r9, r10, r11, r12, r13⟩ := see_block14 F2
      refine bodyPost_ret (v := .tuple #[.agg #[.string ⟨#[]⟩, .string ⟨#[]⟩, .int .i64 0, .int .i64 0, .int .i64 0, .int .i64 0, .int .i64 0, .int .i64 0, .int .i64 0, .int .i64 0, .int .i64 0, .int .i64 0, .int .i64 0, .int .i64 0], .int .i64 2]) (by simp [results, Try.results6, go_sem, r0, r1, r2, r3, r4, r5, r6, r7, r8, r9, r10, r11, r12, r13]) rfl ⟨rfl, F1⟩
set_option maxRecDepth 100000 in
set_option maxHeartbeats 16000000 in
theorem dpar_ui (s : ByteArray) (w : World) (hs : s.size ≤ 200) (X1 : ByteArray) (k1 : Nat) (P1 : Nat) (n1 b1 o : Int) (D1 : ByteArray) (kP1 : k1 ≤ P1) (lP1 : P1 ≤ s.size) (hD1 : s.extract k1 P1 = D1) (hO : IntKind.i64.wrap (0 - n1) = o) (hO3 : IntKind.i64.wrap (-n1) = o) (tP : (P1 == s.size) = false) (tP2 : ((P1 : Int) == (s.size : Int)) = false) (X2 : ByteArray) (k3 : Nat) (a0 : Int) (hA : IntKind.i64.wrap (o + 3600) = a0) (l4 : k3 < s.size) (u44 : ((s[k3].toNat : Int) != 44) = false) (Q1 : Nat) (kQ1 : k3 + 1 ≤ Q1) (R1 : ByteArray) (K1 M1 D3 A1 C1 e1 : Int) (hR1 : s.extract (k3 + 1) Q1 = R1) (lQ1 : Q1 < s.size) (Q2 : Nat) (kQ2 : Q1 + 1 ≤ Q2) (R2 : ByteArray) (K2 M2 D4 A4 C2 e2 : Int) (hR2 : s.extract (Q1 + 1) Q2 = R2) (lQ2 : Q2 ≤ s.size) (te2 : (e2 != 0) = true)
    (HN1 : Hid (∀ w, Calls Try.prog 13 #[.string s, .int .i64 0] w fun x w' => x = .returned (.tuple #[.string X1, .int .i64 (k1 : Int)]) ∧ w = w'))
    (HC1 : Hid (∀ w, Calls Try.prog 14 #[.string s, .int .i64 (k1 : Int)] w fun x w' => x = .returned (.int .i64 (P1 : Int)) ∧ w = w'))
    (HP1 : Hid (∀ w, Calls Try.prog 15 #[.string D1, .int .i64 24] w fun x w' => x = .returned (.tuple #[.int .i64 n1, .int .i64 0]) ∧ Below w.heap.size w w'))
    (HN2 : Hid (∀ w, Calls Try.prog 13 #[.string s, .int .i64 (P1 : Int)] w fun x w' => x = .returned (.tuple #[.string X2, .int .i64 (k3 : Int)]) ∧ w = w'))
    (HA1 : Hid (∀ j (h : j < s.size), k3 + 1 ≤ j → j < Q1 → ((s[j].toNat : Int) != 44) = true)) (HZ1 : Hid (∀ h : Q1 < s.size, ((s[Q1].toNat : Int) != 44) = false))
    (HR1 : Hid (∀ w, Calls Try.prog 16 #[.string R1] w fun x w' => x = .returned (.tuple #[.agg #[.int .i64 K1, .int .i64 M1, .int .i64 D3, .int .i64 A1, .int .i64 C1], .int .i64 0]) ∧ Below w.heap.size w w'))
    (HA2 : Hid (∀ j (h : j < s.size), Q1 + 1 ≤ j → j < Q2 → ((s[j].toNat : Int) != 44) = true)) (HZ2 : Hid (∀ h : Q2 < s.size, ((s[Q2].toNat : Int) != 44) = false))
    (HR2 : Hid (∀ w, Calls Try.prog 16 #[.string R2] w fun x w' => x = .returned (.tuple #[.agg #[.int .i64 K2, .int .i64 M2, .int .i64 D4, .int .i64 A4, .int .i64 C2], .int .i64 e2]) ∧ Below w.heap.size w w'))
    : Calls Try.prog 6 #[.string s] w fun xx w' => xx = .returned (.tuple #[.agg #[.string ⟨#[]⟩, .string ⟨#[]⟩, .int .i64 0, .int .i64 0, .int .i64 0, .int .i64 0, .int .i64 0, .int .i64 0, .int .i64 0, .int .i64 0, .int .i64 0, .int .i64 0, .int .i64 0, .int .i64 0], .int .i64 e2]) ∧ Below w.heap.size w w' := by
  have S0 := Pg.new w
  obtain ⟨W0, hW0⟩ : ∃ W0, W0 = w.alloc (.cells (#[.string ⟨#[]⟩, .string ⟨#[]⟩, .int .i64 0, .int .i64 0, .int .i64 0, .int .i64 0, .int .i64 0, .int .i64 0, .int .i64 0, .int .i64 0, .int .i64 0, .int .i64 0, .int .i64 0, .int .i64 0] : Array Value) 33) := ⟨_, rfl⟩
  have z0 : W0.heap.size = w.heap.size + 1 := by rw [hW0]; simp
  rw [← hW0] at S0
  obtain ⟨W1, hW1⟩ : ∃ W1, W1 = W0.alloc (.cells (#[.string ⟨#[]⟩, .string ⟨#[]⟩, .int .i64 0, .int .i64 0, .int .i64 0, .int .i64 0, .int .i64 0, .int .i64 0, .int .i64 0, .int .i64 0, .int .i64 0, .int .i64 0, .int .i64 0, .int .i64 0] : Array Value) 33) := ⟨_, rfl⟩
  obtain ⟨q, hq⟩ : ∃ q, q = W0.heap.size := ⟨_, rfl⟩
  rw [← z0, ← hW1, ← hq] at S0
  have S := Lib.hid S0
  clear S0 z0
  go_enter Try.func6, Try.ntmps6
  go_upto_region 1 with fail
  rw [← hW0]; clear hW0
  go_upto_region 2 with fail
  rw [← hq, ← hW1]; clear hq hW1
  obtain ⟨d0, d1, d2, d3, d4, d5, d6, d7, d8, d9, d10, d11, d12, d13, h0, h1, h2, h3, h4, h5, h6, h7, h8, h9, h10, h11, h12, h13⟩ := S.out.see
  have hk1 : decide ((k1 : Int) < 0) = false := decide_eq_false (by omega)
  go_upto_region 6 with (go_at_call 13; with_reducible refine (HN1.out _).mono ?_; rintro x w2 ⟨rfl, rfl⟩)
  obtain ⟨W2, hW2⟩ : ∃ W9, W9 = (W1.setCell ⟨q, 0, none⟩ (.string X1)) := ⟨_, rfl⟩
  have S9 : Pg w (W1.setCell ⟨q, 0, none⟩ (.string X1)) q #[.string X1, .string ⟨#[]⟩, .int .i64 0, .int .i64 0, .int .i64 0, .int .i64 0, .int .i64 0, .int .i64 0, .int .i64 0, .int .i64 0, .int .i64 0, .int .i64 0, .int .i64 0, .int .i64 0] := (S.out.set 0 (.string X1))
  rw [← hW2] at S9
  rw [← hW2]
  replace S := Lib.hid S9
  clear S9 hW2
  obtain ⟨d0, d1, d2, d3, d4, d5, d6, d7, d8, d9, d10, d11, d12, d13, h0, h1, h2, h3, h4, h5, h6, h7, h8, h9, h10, h11, h12, h13⟩ := S.out.see
  go_upto_region 11 with (first
    | (go_at_call 14; with_reducible refine (HC1.out _).mono ?_; rintro x w3 ⟨rfl, rfl⟩)
    | (go_at_call 15; with_reducible refine (HP1.out _).mono ?_; rintro x w4 ⟨rfl, hb⟩; have S := Lib.hid (S.out.keep hb); clear hb; obtain ⟨d0, d1, d2, d3, d4, d5, d6, d7, d8, d9, d10, d11, d12, d13, h0, h1, h2, h3, h4, h5, h6, h7, h8, h9, h10, h11, h12, h13⟩ := S.out.see))
  obtain ⟨W5, hW5⟩ : ∃ W9, W9 = (w4.setCell ⟨q, 2, none⟩ (.int .i64 o)) := ⟨_, rfl⟩
  have S9 : Pg w (w4.setCell ⟨q, 2, none⟩ (.int .i64 o)) q #[.string X1, .string ⟨#[]⟩, .int .i64 o, .int .i64 0, .int .i64 0, .int .i64 0, .int .i64 0, .int .i64 0, .int .i64 0, .int .i64 0, .int .i64 0, .int .i64 0, .int .i64 0, .int .i64 0] := (S.out.set 2 (.int .i64 o))
  rw [← hW5] at S9
  rw [← hW5]
  replace S := Lib.hid S9
  clear S9 hW5
  obtain ⟨d0, d1, d2, d3, d4, d5, d6, d7, d8, d9, d10, d11, d12, d13, h0, h1, h2, h3, h4, h5, h6, h7, h8, h9, h10, h11, h12, h13⟩ := S.out.see
  have hk3 : decide ((k3 : Int) < 0) = false := decide_eq_false (by omega)
  go_upto_region 17 with (go_at_call 13; with_reducible refine (HN2.out _).mono ?_; rintro x w6 ⟨rfl, rfl⟩)
  obtain ⟨W7, hW7⟩ : ∃ W9, W9 = (W5.setCell ⟨q, 1, none⟩ (.string X2)) := ⟨_, rfl⟩
  have S9 : Pg w (W5.setCell ⟨q, 1, none⟩ (.string X2)) q #[.string X1, .string X2, .int .i64 o, .int .i64 0, .int .i64 0, .int .i64 0, .int .i64 0, .int .i64 0, .int .i64 0, .int .i64 0, .int .i64 0, .int .i64 0, .int .i64 0, .int .i64 0] := (S.out.set 1 (.string X2))
  rw [← hW7] at S9
  rw [← hW7]
  replace S := Lib.hid S9
  clear S9 hW7
  obtain ⟨d0, d1, d2, d3, d4, d5, d6, d7, d8, d9, d10, d11, d12, d13, h0, h1, h2, h3, h4, h5, h6, h7, h8, h9, h10, h11, h12, h13⟩ := S.out.see
  go_upto_region 18 with fail
  obtain ⟨W8, hW8⟩ : ∃ W9, W9 = (W7.setCell ⟨q, 3, none⟩ (.int .i64 a0)) := ⟨_, rfl⟩
  have S9 : Pg w (W7.setCell ⟨q, 3, none⟩ (.int .i64 a0)) q #[.string X1, .string X2, .int .i64 o, .int .i64 a0, .int .i64 0, .int .i64 0, .int .i64 0, .int .i64 0, .int .i64 0, .int .i64 0, .int .i64 0, .int .i64 0, .int .i64 0, .int .i64 0] := (S.out.set 3 (.int .i64 a0))
  rw [← hW8] at S9
  rw [← hW8]
  replace S := Lib.hid S9
  clear S9 hW8
  obtain ⟨d0, d1, d2, d3, d4, d5, d6, d7, d8, d9, d10, d11, d12, d13, h0, h1, h2, h3, h4, h5, h6, h7, h8, h9, h10, h11, h12, h13⟩ := S.out.see
  have hl3 : decide (k3 < s.size) = true := decide_eq_true l4
  go_upto_region 25 with fail
  go_wp2_with fail
  refine wp_loop_rounds 2 ?_
  rw [rounds_succ]
  have hl4 : decide (s.size ≤ k3) = false := decide_eq_false (by omega)
  go_upto_region 32 with fail
  go_loop [7] (fun v => ∃ j : Nat, k3 + 1 ≤ j ∧ j ≤ Q1 ∧ v = .int .i64 j) (fun v => Q1 - (intOf v).toNat)
  case atStart => exact ⟨k3 + 1, Nat.le_refl _, kQ1, by go_num⟩
  case round =>
    obtain ⟨j, h1j, h2j, rfl⟩ := hrel
    by_cases hj : j < Q1
    · have hlt : j < s.size := by omega
      have hlt2 : decide (j < s.size) = true := decide_eq_true hlt
      have hc := HA1.out j hlt h1j hj
      go_wp2_with fail
      go_round
      case rel => exact ⟨j + 1, by omega, by omega, by go_num⟩
      case measure => simp [intOf]; omega
    · obtain rfl : Q1 = j := by omega
      clear hj h1j h2j
      have hlt2 : decide (Q1 < s.size) = true := decide_eq_true (by omega)
      have hc := HZ1.out (by omega)
      go_upto_region 35 with (go_at_call 16; with_reducible refine (HR1.out _).mono ?_; rintro x w12 ⟨rfl, hb⟩; have S := Lib.hid (S.out.keep hb); clear hb; obtain ⟨d0, d1, d2, d3, d4, d5, d6, d7, d8, d9, d10, d11, d12, d13, h0, h1, h2, h3, h4, h5, h6, h7, h8, h9, h10, h11, h12, h13⟩ := S.out.see)
      have sb := S.out.keep (bel16 w12 (.cells #[.int .i64 K1, .int .i64 M1, .int .i64 D3, .int .i64 A1, .int .i64 C1] 31))
      have nb : (w12.alloc (.cells #[.int .i64 K1, .int .i64 M1, .int .i64 D3, .int .i64 A1, .int .i64 C1] 31)).heap[w12.heap.size]? = some (.cells #[.int .i64 K1, .int .i64 M1, .int .i64 D3, .int .i64 A1, .int .i64 C1] 31 (0, 0)) := heap_alloc_new w12 _
      obtain ⟨x, hx⟩ : ∃ x, x = w12.heap.size := ⟨_, rfl⟩
      obtain ⟨Wb1, hWb1⟩ : ∃ W9, W9 = w12.alloc (.cells #[.int .i64 K1, .int .i64 M1, .int .i64 D3, .int .i64 A1, .int .i64 C1] 31) := ⟨_, rfl⟩
      rw [← hWb1] at sb nb
      rw [← hx] at nb
      rw [← hWb1, ← hx]
      replace S := Lib.hid sb
      obtain ⟨x0, x1, x2, x3, x4⟩ : Wb1.cell? ⟨x, 0, none⟩ = some (.int .i64 K1) ∧ Wb1.cell? ⟨x, 1, none⟩ = some (.int .i64 M1) ∧ Wb1.cell? ⟨x, 2, none⟩ = some (.int .i64 D3) ∧ Wb1.cell? ⟨x, 3, none⟩ = some (.int .i64 A1) ∧ Wb1.cell? ⟨x, 4, none⟩ = some (.int .i64 C1) := ⟨bk_cell nb 0, bk_cell nb 1, bk_cell nb 2, bk_cell nb 3, bk_cell nb 4⟩
      clear sb nb hx hWb1
      obtain ⟨d0, d1, d2, d3, d4, d5, d6, d7, d8, d9, d10, d11, d12, d13, h0, h1, h2, h3, h4, h5, h6, h7, h8, h9, h10, h11, h12, h13⟩ := S.out.see
      go_upto_region 40 with fail
      obtain ⟨Wc1, hWc1⟩ : ∃ W9, W9 = (((((Wb1.setCell ⟨q, 4, none⟩ (.int .i64 K1)).setCell ⟨q, 5, none⟩ (.int .i64 M1)).setCell ⟨q, 6, none⟩ (.int .i64 D3)).setCell ⟨q, 7, none⟩ (.int .i64 A1)).setCell ⟨q, 8, none⟩ (.int .i64 C1)) := ⟨_, rfl⟩
      have S9 : Pg w (((((Wb1.setCell ⟨q, 4, none⟩ (.int .i64 K1)).setCell ⟨q, 5, none⟩ (.int .i64 M1)).setCell ⟨q, 6, none⟩ (.int .i64 D3)).setCell ⟨q, 7, none⟩ (.int .i64 A1)).setCell ⟨q, 8, none⟩ (.int .i64 C1)) q #[.string X1, .string X2, .int .i64 o, .int .i64 a0, .int .i64 K1, .int .i64 M1, .int .i64 D3, .int .i64 A1, .int .i64 C1, .int .i64 0, .int .i64 0, .int .i64 0, .int .i64 0, .int .i64 0] := (((((S.out.set 4 (.int .i64 K1)).set 5 (.int .i64 M1)).set 6 (.int .i64 D3)).set 7 (.int .i64 A1)).set 8 (.int .i64 C1))
      rw [← hWc1] at S9
      rw [← hWc1]
      replace S := Lib.hid S9
      clear S9 hWc1
      obtain ⟨d0, d1, d2, d3, d4, d5, d6, d7, d8, d9, d10, d11, d12, d13, h0, h1, h2, h3, h4, h5, h6, h7, h8, h9, h10, h11, h12, h13⟩ := S.out.see
      clear x0 x1 x2 x3 x4
      clear hlt2
      go_wp2_with fail
      rw [rounds_succ]
      have hl5 : decide (s.size ≤ Q1) = false := decide_eq_false (by omega)
      go_upto_region 32 with fail
      go_loop [7] (fun v => ∃ j : Nat, Q1 + 1 ≤ j ∧ j ≤ Q2 ∧ v = .int .i64 j) (fun v => Q2 - (intOf v).toNat)
      case atStart => exact ⟨Q1 + 1, Nat.le_refl _, kQ2, by go_num⟩
      case round =>
        obtain ⟨j, h1j, h2j, rfl⟩ := hrel
        by_cases hj : j < Q2
        · have hlt : j < s.size := by omega
          have hlt2 : decide (j < s.size) = true := decide_eq_true hlt
          have hc := HA2.out j hlt h1j hj
          go_wp2_with fail
          go_round
          case rel => exact ⟨j + 1, by omega, by omega, by go_num⟩
          case measure => simp [intOf]; omega
        · obtain rfl : Q2 = j := by omega
          clear hj h1j h2j
          rcases Nat.lt_or_ge Q2 s.size with hz | hz
          · skip
            have hlt2 : decide (Q2 < s.size) = true := decide_eq_true (by omega)
            have hc := HZ2.out (by omega)
            go_upto_region 35 with (go_at_call 16; with_reducible refine (HR2.out _).mono ?_; rintro x w13 ⟨rfl, hb⟩; have S := Lib.hid (S.out.keep hb); clear hb; obtain ⟨d0, d1, d2, d3, d4, d5, d6, d7, d8, d9, d10, d11, d12, d13, h0, h1, h2, h3, h4, h5, h6, h7, h8, h9, h10, h11, h12, h13⟩ := S.out.see)
            have sb := S.out.keep (bel16 w13 (.cells #[.int .i64 K2, .int .i64 M2, .int .i64 D4, .int .i64 A4, .int .i64 C2] 31))
            have nb : (w13.alloc (.cells #[.int .i64 K2, .int .i64 M2, .int .i64 D4, .int .i64 A4, .int .i64 C2] 31)).heap[w13.heap.size]? = some (.cells #[.int .i64 K2, .int .i64 M2, .int .i64 D4, .int .i64 A4, .int .i64 C2] 31 (0, 0)) := heap_alloc_new w13 _
            obtain ⟨x, hx⟩ : ∃ x, x = w13.heap.size := ⟨_, rfl⟩
            obtain ⟨Wb2, hWb2⟩ : ∃ W9, W9 = w13.alloc (.cells #[.int .i64 K2, .int .i64 M2, .int .i64 D4, .int .i64 A4, .int .i64 C2] 31) := ⟨_, rfl⟩
            rw [← hWb2] at sb nb
            rw [← hx] at nb
            rw [← hWb2, ← hx]
            replace S := Lib.hid sb
            obtain ⟨x0, x1, x2, x3, x4⟩ : Wb2.cell? ⟨x, 0, none⟩ = some (.int .i64 K2) ∧ Wb2.cell? ⟨x, 1, none⟩ = some (.int .i64 M2) ∧ Wb2.cell? ⟨x, 2, none⟩ = some (.int .i64 D4) ∧ Wb2.cell? ⟨x, 3, none⟩ = some (.int .i64 A4) ∧ Wb2.cell? ⟨x, 4, none⟩ = some (.int .i64 C2) := ⟨bk_cell nb 0, bk_cell nb 1, bk_cell nb 2, bk_cell nb 3, bk_cell nb 4⟩
            clear sb nb hx hWb2
            obtain ⟨d0, d1, d2, d3, d4, d5, d6, d7, d8, d9, d10, d11, d12, d13, h0, h1, h2, h3, h4, h5, h6, h7, h8, h9, h10, h11, h12, h13⟩ := S.out.see
            obtain ⟨p0, p1, p2, p3, p4, p5, p6, p7, p8, p9, p10, p11, p12, p13, g0, g1, g2, g3, g4, g5, g6, g7, g8, g9, g10, g11, g12, g13⟩ := S.out.seep
            go_wp2_with fail
            obtain ⟨F1, F2, -⟩ := set_block14 S.out.res S.out.bel (Nat.le_refl _) (.string ⟨#[]⟩) (.string ⟨#[]⟩) (.int .i64 0) (.int .i64 0) (.int .i64 0) (.int .i64 0) (.int .i64 0) (.int .i64 0) (.int .i64 0) (.int .i64 0) (.int .i64 0) (.int .i64 0) (.int .i64 0) (.int .i64 0)
            show bodyPost _ _ _ _ _ (put17_14 Wb2 w.heap.size (.string ⟨#[]⟩) (.string ⟨#[]⟩) (.int .i64 0) (.int .i64 0) (.int .i64 0) (.int .i64 0) (.int .i64 0) (.int .i64 0) (.int .i64 0) (.int .i64 0) (.int .i64 0) (.int .i64 0) (.int .i64 0) (.int .i64 0))
            generalize put17_14 Wb2 w.heap.size (.string ⟨#[]⟩) (.string ⟨#[]⟩) (.int .i64 0) (.int .i64 0) (.int .i64 0) (.int .i64 0) (.int .i64 0) (.int .i64 0) (.int .i64 0) (.int .i64 0) (.int .i64 0) (.int .i64 0) (.int .i64 0) (.int .i64 0) = W99 at *
            obtain ⟨r0, r1, r2, r3, r4, r5, r6, r7, r8, r9, r10, r11, r12, r13⟩ := see_block14 F2
            refine bodyPost_ret (v := .tuple #[.agg #[.string ⟨#[]⟩, .string ⟨#[]⟩, .int .i64 0, .int .i64 0, .int .i64 0, .int .i64 0, .int .i64 0, .int .i64 0, .int .i64 0, .int .i64 0, .int .i64 0, .int .i64 0, .int .i64 0, .int .i64 0], .int .i64 e2]) (by simp [results, Try.results6, go_sem, r0, r1, r2, r3, r4, r5, r6, r7, r8, r9, r10, r11, r12, r13]) rfl ⟨rfl, F1⟩
          · skip
            have hlt2 : decide (Q2 < s.size) = false := decide_eq_false (by omega)
            go_upto_region 35 with (go_at_call 16; with_reducible refine (HR2.out _).mono ?_; rintro x w13 ⟨rfl, hb⟩; have S := Lib.hid (S.out.keep hb); clear hb; obtain ⟨d0, d1, d2, d3, d4, d5, d6, d7, d8, d9, d10, d11, d12, d13, h0, h1, h2, h3, h4, h5, h6, h7, h8, h9, h10, h11, h12, h13⟩ := S.out.see)
            have sb := S.out.keep (bel16 w13 (.cells #[.int .i64 K2, .int .i64 M2, .int .i64 D4, .int .i64 A4, .int .i64 C2] 31))
            have nb : (w13.alloc (.cells #[.int .i64 K2, .int .i64 M2, .int .i64 D4, .int .i64 A4, .int .i64 C2] 31)).heap[w13.heap.size]? = some (.cells #[.int .i64 K2, .int .i64 M2, .int .i64 D4, .int .i64 A4, .int .i64 C2] 31 (0, 0)) := heap_alloc_new w13 _
            obtain ⟨x, hx⟩ : ∃ x, x = w13.heap.size := ⟨_, rfl⟩
            obtain ⟨Wb2, hWb2⟩ : ∃ W9, W9 = w13.alloc (.cells #[.int .i64 K2, .int .i64 M2, .int .i64 D4, .int .i64 A4, .int .i64 C2] 31) := ⟨_, rfl⟩
            rw [← hWb2] at sb nb
            rw [← hx] at nb
            rw [← hWb2, ← hx]
            replace S := Lib.hid sb
            obtain ⟨x0, x1, x2, x3, x4⟩ : Wb2.cell? ⟨x, 0, none⟩ = some (.int .i64 K2) ∧ Wb2.cell? ⟨x, 1, none⟩ = some (.int .i64 M2) ∧ Wb2.cell? ⟨x, 2, none⟩ = some (.int .i64 D4) ∧ Wb2.cell? ⟨x, 3, none⟩ = some (.int .i64 A4) ∧ Wb2.cell? ⟨x, 4, none⟩ = some (.int .i64 C2) := ⟨bk_cell nb 0, bk_cell nb 1, bk_cell nb 2, bk_cell nb 3, bk_cell nb 4⟩
            clear sb nb hx hWb2
            obtain ⟨d0, d1, d2, d3, d4, d5, d6, d7, d8, d9, d10, d11, d12, d13, h0, h1, h2, h3, h4, h5, h6, h7, h8, h9, h10, h11, h12, h13⟩ := S.out.see
            obtain ⟨p0, p1, p2, p3, p4, p5, p6, p7, p8, p9, p10, p11, p12, p13, g0, g1, g2, g3, g4, g5, g6, g7, g8, g9, g10, g11, g12, g13⟩ := S.out.seep
            go_wp2_with fail
            obtain ⟨F1, F2, -⟩ := set_block14 S.out.res S.out.bel (Nat.le_refl _) (.string ⟨#[]⟩) (.string ⟨#[]⟩) (.int .i64 0) (.int .i64 0) (.int .i64 0) (.int .i64 0) (.int .i64 0) (.int .i64 0) (.int .i64 0) (.int .i64 0) (.int .i64 0) (.int .i64 0) (.int .i64 0) (.int .i64 0)
            show bodyPost _ _ _ _ _ (put17_14 Wb2 w.heap.size (.string ⟨#[]⟩) (.string ⟨#[]⟩) (.int .i64 0) (.int .i64 0) (.int .i64 0) (.int .i64 0) (.int .i64 0) (.int .i64 0) (.int .i64 0) (.int .i64 0) (.int .i64 0) (.int .i64 0) (.int .i64 0) (.int .i64 0))
            generalize put17_14 Wb2 w.heap.size (.string ⟨#[]⟩) (.string ⟨#[]⟩) (.int .i64 0) (.int .i64 0) (.int .i64 0) (.int .i64 0) (.int .i64 0) (.int .i64 0) (.int .i64 0) (.int .i64 0) (.int .i64 0) (.int .i64 0) (.int .i64 0) (.int .i64 0) = W99 at *
            obtain ⟨r0, r1, r2, r3, r4, r5, r6, r7, r8, r9, r10, r11, r12, r13⟩ := see_block14 F2
            refine bodyPost_ret (v := .tuple #[.agg #[.string ⟨#[]⟩, .string ⟨#[]⟩, .int .i64 0, .int .i64 0, .int .i64 0, .int .i64 0, .int .i64 0, .int .i64 0, .int .i64 0, .int .i64 0, .int .i64 0, .int .i64 0, .int .i64 0, .int .i64 0], .int .i64 e2]) (by simp [results, Try.results6, go_sem, r0, r1, r2, r3, r4, r5, r6, r7, r8, r9, r10, r11, r12, r13]) rfl ⟨rfl, F1⟩
end Go.Proofs.Ytkhcneacjnpcnaa
