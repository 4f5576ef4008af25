/- Merged: RulDb. -/
import Derived.Test.YtkhcneacjnpcnaaGPosixParses40
namespace Go.Proofs.Ytkhcneacjnpcnaa
open Go.RowKit
set_option linter.unusedVariables false
set_option linter.unusedSimpArgs false

set_option maxHeartbeats 8000000 in
theorem dp_Nb (s D : ByteArray) (w : World) (Q : Nat) (hQ : Q ≤ s.size) (hD : D = s.extract 0 Q) (hs : s.size ≤ 900)
    (HA : Hid (∀ k (h : k < s.size), k < Q → ((s[k].toNat : Int) != 47) = true)) (HZ : Hid (∀ h : Q < s.size, ((s[Q].toNat : Int) != 47) = false)) 
    (z0 : D.size = 0 ∨ ∃ h : 0 < D.size, ((D[0].toNat : Int) == 74) = false ∧ ((D[0].toNat : Int) == 77) = false)
    (HN : Hid (∀ w, Calls Try.prog 33 #[.string D, .int .i64 1, .int .i64 3] w fun e w' => e = .returned (.tuple #[.int .i64 0, .bool false]) ∧ w = w'))
    : Calls Try.prog 16 #[.string s] w fun xx w' => xx = .returned (.tuple #[.agg #[.int .i64 0, .int .i64 0, .int .i64 0, .int .i64 0, .int .i64 0], .int .i64 2]) ∧ Below w.heap.size w w' := by
  obtain ⟨W0, hW0⟩ : ∃ W0, W0 = w.alloc (.cells #[.int .i64 0, .int .i64 0, .int .i64 0, .int .i64 0, .int .i64 0] 31) := ⟨_, rfl⟩
  have S0 := Dc.new w
  rw [← hW0] at S0
  obtain ⟨q, hq⟩ : ∃ q, q = W0.heap.size := ⟨_, rfl⟩
  obtain ⟨W1, hW1⟩ : ∃ W1, W1 = W0.alloc (.cells #[.int .i64 2, .int .i64 0, .int .i64 0, .int .i64 0, .int .i64 7200] 31) := ⟨_, rfl⟩
  rw [← hW1, ← hq] at S0
  have S := Lib.hid S0
  clear S0
  go_enter Try.func16, Try.ntmps16
  go_upto_region 1 with fail
  rw [← hW0]; clear hW0
  go_upto_region 2 with fail
  go_loop [4] (fun v => ∃ k : Nat, k ≤ Q ∧ v = .int .i64 k) (fun v => Q - (intOf v).toNat)
  case atStart => exact ⟨0, Nat.zero_le _, rfl⟩
  case round =>
    obtain ⟨k, hk, rfl⟩ := hrel
    by_cases hkQ : k < Q
    · have hks : k < s.size := by omega
      have hks2 : decide (k < s.size) = true := decide_eq_true hks
      have t47 := HA.out k hks hkQ
      go_wp2_with fail
      go_round
      case rel => exact ⟨k + 1, by omega, by go_num⟩
      case measure => simp [intOf]; omega
    · obtain rfl : k = Q := by omega
      clear hkQ hk
      rcases Nat.lt_or_ge k s.size with hz | hz
      · have tz : decide (k < s.size) = true := decide_eq_true hz
        have t47 := HZ.out hz
        rcases z0 with z0 | ⟨z0, z1, z2⟩
        · have z3 : decide (0 < D.size) = false := decide_eq_false (by omega)
          go_upto_region 5 with fail
          rw [← hD]
          go_upto_region 6 with fail
          rw [← hW1, ← hq]
          clear hW1 hq hD HA
          obtain ⟨c0, c1, c2, c3, c4, f0, f1, f2, f3, f4⟩ := S.out.seeq
          go_upto_region 29 with (go_at_call 33; refine (HN.out _).mono ?_; rintro e wn ⟨rfl, rfl⟩)
          have S2 := S.out.set 3 (.int .i64 0)
          obtain ⟨U, hU⟩ : ∃ U, U = W1.setCell ⟨q, 3, none⟩ (.int .i64 0) := ⟨_, rfl⟩
          rw [← hU] at S2
          rw [← hU]
          clear hU
          clear c0 c1 c2 c3 c4 f0 f1 f2 f3 f4
          have Z : Dc w U w.heap.size q #[.int .i64 2, .int .i64 0, .int .i64 0, .int .i64 0, .int .i64 7200] := S2
          replace S := Lib.hid Z
          clear Z
          obtain ⟨d0, d1, d2, d3, d4, h0, h1, h2, h3, h4⟩ := S.out.seep
          go_wp2_with fail
          obtain ⟨F, r0, r1, r2, r3, r4⟩ := S.out.done 0 0 0 0 0
          show bodyPost _ _ _ _ _ (put16r U w.heap.size 0 0 0 0 0)
          generalize put16r U w.heap.size 0 0 0 0 0 = WW at *
          refine bodyPost_ret (v := .tuple #[.agg #[.int .i64 0, .int .i64 0, .int .i64 0, .int .i64 0, .int .i64 0], .int .i64 2]) (by simp [results, Try.results16, go_sem, r0, r1, r2, r3, r4]) rfl ⟨rfl, F⟩
        · have z3 : decide (0 < D.size) = true := decide_eq_true z0
          go_upto_region 5 with fail
          rw [← hD]
          go_upto_region 6 with fail
          rw [← hW1, ← hq]
          clear hW1 hq hD HA
          obtain ⟨c0, c1, c2, c3, c4, f0, f1, f2, f3, f4⟩ := S.out.seeq
          go_upto_region 29 with (go_at_call 33; refine (HN.out _).mono ?_; rintro e wn ⟨rfl, rfl⟩)
          have S2 := S.out.set 3 (.int .i64 0)
          obtain ⟨U, hU⟩ : ∃ U, U = W1.setCell ⟨q, 3, none⟩ (.int .i64 0) := ⟨_, rfl⟩
          rw [← hU] at S2
          rw [← hU]
          clear hU
          clear c0 c1 c2 c3 c4 f0 f1 f2 f3 f4
          have Z : Dc w U w.heap.size q #[.int .i64 2, .int .i64 0, .int .i64 0, .int .i64 0, .int .i64 7200] := S2
          replace S := Lib.hid Z
          clear Z
          obtain ⟨d0, d1, d2, d3, d4, h0, h1, h2, h3, h4⟩ := S.out.seep
          go_wp2_with fail
          obtain ⟨F, r0, r1, r2, r3, r4⟩ := S.out.done 0 0 0 0 0
          show bodyPost _ _ _ _ _ (put16r U w.heap.size 0 0 0 0 0)
          generalize put16r U w.heap.size 0 0 0 0 0 = WW at *
          refine bodyPost_ret (v := .tuple #[.agg #[.int .i64 0, .int .i64 0, .int .i64 0, .int .i64 0, .int .i64 0], .int .i64 2]) (by simp [results, Try.results16, go_sem, r0, r1, r2, r3, r4]) rfl ⟨rfl, F⟩
      · have tz : decide (k < s.size) = false := decide_eq_false (by omega)
        rcases z0 with z0 | ⟨z0, z1, z2⟩
        · have z3 : decide (0 < D.size) = false := decide_eq_false (by omega)
          go_upto_region 5 with fail
          rw [← hD]
          go_upto_region 6 with fail
          rw [← hW1, ← hq]
          clear hW1 hq hD HA
          obtain ⟨c0, c1, c2, c3, c4, f0, f1, f2, f3, f4⟩ := S.out.seeq
          go_upto_region 29 with (go_at_call 33; refine (HN.out _).mono ?_; rintro e wn ⟨rfl, rfl⟩)
          have S2 := S.out.set 3 (.int .i64 0)
          obtain ⟨U, hU⟩ : ∃ U, U = W1.setCell ⟨q, 3, none⟩ (.int .i64 0) := ⟨_, rfl⟩
          rw [← hU] at S2
          rw [← hU]
          clear hU
          clear c0 c1 c2 c3 c4 f0 f1 f2 f3 f4
          have Z : Dc w U w.heap.size q #[.int .i64 2, .int .i64 0, .int .i64 0, .int .i64 0, .int .i64 7200] := S2
          replace S := Lib.hid Z
          clear Z
          obtain ⟨d0, d1, d2, d3, d4, h0, h1, h2, h3, h4⟩ := S.out.seep
          go_wp2_with fail
          obtain ⟨F, r0, r1, r2, r3, r4⟩ := S.out.done 0 0 0 0 0
          show bodyPost _ _ _ _ _ (put16r U w.heap.size 0 0 0 0 0)
          generalize put16r U w.heap.size 0 0 0 0 0 = WW at *
          refine bodyPost_ret (v := .tuple #[.agg #[.int .i64 0, .int .i64 0, .int .i64 0, .int .i64 0, .int .i64 0], .int .i64 2]) (by simp [results, Try.results16, go_sem, r0, r1, r2, r3, r4]) rfl ⟨rfl, F⟩
        · have z3 : decide (0 < D.size) = true := decide_eq_true z0
          go_upto_region 5 with fail
          rw [← hD]
          go_upto_region 6 with fail
          rw [← hW1, ← hq]
          clear hW1 hq hD HA
          obtain ⟨c0, c1, c2, c3, c4, f0, f1, f2, f3, f4⟩ := S.out.seeq
          go_upto_region 29 with (go_at_call 33; refine (HN.out _).mono ?_; rintro e wn ⟨rfl, rfl⟩)
          have S2 := S.out.set 3 (.int .i64 0)
          obtain ⟨U, hU⟩ : ∃ U, U = W1.setCell ⟨q, 3, none⟩ (.int .i64 0) := ⟨_, rfl⟩
          rw [← hU] at S2
          rw [← hU]
          clear hU
          clear c0 c1 c2 c3 c4 f0 f1 f2 f3 f4
          have Z : Dc w U w.heap.size q #[.int .i64 2, .int .i64 0, .int .i64 0, .int .i64 0, .int .i64 7200] := S2
          replace S := Lib.hid Z
          clear Z
          obtain ⟨d0, d1, d2, d3, d4, h0, h1, h2, h3, h4⟩ := S.out.seep
          go_wp2_with fail
          obtain ⟨F, r0, r1, r2, r3, r4⟩ := S.out.done 0 0 0 0 0
          show bodyPost _ _ _ _ _ (put16r U w.heap.size 0 0 0 0 0)
          generalize put16r U w.heap.size 0 0 0 0 0 = WW at *
          refine bodyPost_ret (v := .tuple #[.agg #[.int .i64 0, .int .i64 0, .int .i64 0, .int .i64 0, .int .i64 0], .int .i64 2]) (by simp [results, Try.results16, go_sem, r0, r1, r2, r3, r4]) rfl ⟨rfl, F⟩
set_option maxHeartbeats 8000000 in
theorem dp_N_nw (s D : ByteArray) (w : World) (Q : Nat) (hQ : Q ≤ s.size) (hD : D = s.extract 0 Q) (hs : s.size ≤ 900)
    (HA : Hid (∀ k (h : k < s.size), k < Q → ((s[k].toNat : Int) != 47) = true)) (HZ : Hid (∀ h : Q < s.size, ((s[Q].toNat : Int) != 47) = false)) (x R : Int) 
    (z0 : D.size = 0 ∨ ∃ h : 0 < D.size, ((D[0].toNat : Int) == 74) = false ∧ ((D[0].toNat : Int) == 77) = false)
    (HN : Hid (∀ w, Calls Try.prog 33 #[.string D, .int .i64 1, .int .i64 3] w fun e w' => e = .returned (.tuple #[.int .i64 x, .bool true]) ∧ w = w'))
    (hz : ¬ Q < s.size)
    (HX : Hid (∀ w, Calls Try.prog 34 #[.agg #[.int .i64 2, .int .i64 0, .int .i64 0, .int .i64 x, .int .i64 7200]] w fun e w' => e = .returned (.int .i64 R) ∧ Below w.heap.size w w'))
    (hr : R ≠ 0)
    : Calls Try.prog 16 #[.string s] w fun xx w' => xx = .returned (.tuple #[.agg #[.int .i64 0, .int .i64 0, .int .i64 0, .int .i64 0, .int .i64 0], .int .i64 R]) ∧ Below w.heap.size w w' := by
  obtain ⟨W0, hW0⟩ : ∃ W0, W0 = w.alloc (.cells #[.int .i64 0, .int .i64 0, .int .i64 0, .int .i64 0, .int .i64 0] 31) := ⟨_, rfl⟩
  have S0 := Dc.new w
  rw [← hW0] at S0
  obtain ⟨q, hq⟩ : ∃ q, q = W0.heap.size := ⟨_, rfl⟩
  obtain ⟨W1, hW1⟩ : ∃ W1, W1 = W0.alloc (.cells #[.int .i64 2, .int .i64 0, .int .i64 0, .int .i64 0, .int .i64 7200] 31) := ⟨_, rfl⟩
  rw [← hW1, ← hq] at S0
  have S := Lib.hid S0
  clear S0
  go_enter Try.func16, Try.ntmps16
  go_upto_region 1 with fail
  rw [← hW0]; clear hW0
  go_upto_region 2 with fail
  go_loop [4] (fun v => ∃ k : Nat, k ≤ Q ∧ v = .int .i64 k) (fun v => Q - (intOf v).toNat)
  case atStart => exact ⟨0, Nat.zero_le _, rfl⟩
  case round =>
    obtain ⟨k, hk, rfl⟩ := hrel
    by_cases hkQ : k < Q
    · have hks : k < s.size := by omega
      have hks2 : decide (k < s.size) = true := decide_eq_true hks
      have t47 := HA.out k hks hkQ
      go_wp2_with fail
      go_round
      case rel => exact ⟨k + 1, by omega, by go_num⟩
      case measure => simp [intOf]; omega
    · obtain rfl : k = Q := by omega
      clear hkQ hk
      have tz : decide (k < s.size) = false := decide_eq_false (by omega)
      rcases z0 with z0 | ⟨z0, z1, z2⟩
      · have z3 : decide (0 < D.size) = false := decide_eq_false (by omega)
        have hr2 : (R != 0) = true := ne_yes hr
        clear hr
        go_upto_region 5 with fail
        rw [← hD]
        go_upto_region 6 with fail
        rw [← hW1, ← hq]
        clear hW1 hq hD HA
        obtain ⟨c0, c1, c2, c3, c4, f0, f1, f2, f3, f4⟩ := S.out.seeq
        go_upto_region 29 with (go_at_call 33; refine (HN.out _).mono ?_; rintro e wn ⟨rfl, rfl⟩)
        have S2 := S.out.set 3 (.int .i64 x)
        obtain ⟨U, hU⟩ : ∃ U, U = W1.setCell ⟨q, 3, none⟩ (.int .i64 x) := ⟨_, rfl⟩
        rw [← hU] at S2
        rw [← hU]
        clear hU
        clear c0 c1 c2 c3 c4 f0 f1 f2 f3 f4
        have Z : Dc w U w.heap.size q #[.int .i64 2, .int .i64 0, .int .i64 0, .int .i64 x, .int .i64 7200] := S2
        replace S := Lib.hid Z
        clear Z
        obtain ⟨c0, c1, c2, c3, c4, f0, f1, f2, f3, f4⟩ := S.out.seeq
        go_wp2_with (go_at_call 34; refine (HX.out _).mono ?_; rintro e wc ⟨rfl, hb⟩; have S := Lib.hid (S.out.keep hb); clear hb; obtain ⟨c0, c1, c2, c3, c4, f0, f1, f2, f3, f4⟩ := S.out.seeq; obtain ⟨d0, d1, d2, d3, d4, h0, h1, h2, h3, h4⟩ := S.out.seep)
        obtain ⟨F, r0, r1, r2, r3, r4⟩ := S.out.done 0 0 0 0 0
        show bodyPost _ _ _ _ _ (put16r wc w.heap.size 0 0 0 0 0)
        generalize put16r wc w.heap.size 0 0 0 0 0 = WW at *
        refine bodyPost_ret (v := .tuple #[.agg #[.int .i64 0, .int .i64 0, .int .i64 0, .int .i64 0, .int .i64 0], .int .i64 R]) (by simp [results, Try.results16, go_sem, r0, r1, r2, r3, r4]) rfl ⟨rfl, F⟩
      · have z3 : decide (0 < D.size) = true := decide_eq_true z0
        have hr2 : (R != 0) = true := ne_yes hr
        clear hr
        go_upto_region 5 with fail
        rw [← hD]
        go_upto_region 6 with fail
        rw [← hW1, ← hq]
        clear hW1 hq hD HA
        obtain ⟨c0, c1, c2, c3, c4, f0, f1, f2, f3, f4⟩ := S.out.seeq
        go_upto_region 29 with (go_at_call 33; refine (HN.out _).mono ?_; rintro e wn ⟨rfl, rfl⟩)
        have S2 := S.out.set 3 (.int .i64 x)
        obtain ⟨U, hU⟩ : ∃ U, U = W1.setCell ⟨q, 3, none⟩ (.int .i64 x) := ⟨_, rfl⟩
        rw [← hU] at S2
        rw [← hU]
        clear hU
        clear c0 c1 c2 c3 c4 f0 f1 f2 f3 f4
        have Z : Dc w U w.heap.size q #[.int .i64 2, .int .i64 0, .int .i64 0, .int .i64 x, .int .i64 7200] := S2
        replace S := Lib.hid Z
        clear Z
        obtain ⟨c0, c1, c2, c3, c4, f0, f1, f2, f3, f4⟩ := S.out.seeq
        go_wp2_with (go_at_call 34; refine (HX.out _).mono ?_; rintro e wc ⟨rfl, hb⟩; have S := Lib.hid (S.out.keep hb); clear hb; obtain ⟨c0, c1, c2, c3, c4, f0, f1, f2, f3, f4⟩ := S.out.seeq; obtain ⟨d0, d1, d2, d3, d4, h0, h1, h2, h3, h4⟩ := S.out.seep)
        obtain ⟨F, r0, r1, r2, r3, r4⟩ := S.out.done 0 0 0 0 0
        show bodyPost _ _ _ _ _ (put16r wc w.heap.size 0 0 0 0 0)
        generalize put16r wc w.heap.size 0 0 0 0 0 = WW at *
        refine bodyPost_ret (v := .tuple #[.agg #[.int .i64 0, .int .i64 0, .int .i64 0, .int .i64 0, .int .i64 0], .int .i64 R]) (by simp [results, Try.results16, go_sem, r0, r1, r2, r3, r4]) rfl ⟨rfl, F⟩
set_option maxHeartbeats 8000000 in
theorem dp_N_ng (s D : ByteArray) (w : World) (Q : Nat) (hQ : Q ≤ s.size) (hD : D = s.extract 0 Q) (hs : s.size ≤ 900)
    (HA : Hid (∀ k (h : k < s.size), k < Q → ((s[k].toNat : Int) != 47) = true)) (HZ : Hid (∀ h : Q < s.size, ((s[Q].toNat : Int) != 47) = false)) (x : Int) 
    (z0 : D.size = 0 ∨ ∃ h : 0 < D.size, ((D[0].toNat : Int) == 74) = false ∧ ((D[0].toNat : Int) == 77) = false)
    (HN : Hid (∀ w, Calls Try.prog 33 #[.string D, .int .i64 1, .int .i64 3] w fun e w' => e = .returned (.tuple #[.int .i64 x, .bool true]) ∧ w = w'))
    (hz : ¬ Q < s.size)
    (HX : Hid (∀ w, Calls Try.prog 34 #[.agg #[.int .i64 2, .int .i64 0, .int .i64 0, .int .i64 x, .int .i64 7200]] w fun e w' => e = .returned (.int .i64 0) ∧ Below w.heap.size w w'))
    : Calls Try.prog 16 #[.string s] w fun xx w' => xx = .returned (.tuple #[.agg #[.int .i64 2, .int .i64 0, .int .i64 0, .int .i64 x, .int .i64 7200], .int .i64 0]) ∧ Below w.heap.size w w' := by
  obtain ⟨W0, hW0⟩ : ∃ W0, W0 = w.alloc (.cells #[.int .i64 0, .int .i64 0, .int .i64 0, .int .i64 0, .int .i64 0] 31) := ⟨_, rfl⟩
  have S0 := Dc.new w
  rw [← hW0] at S0
  obtain ⟨q, hq⟩ : ∃ q, q = W0.heap.size := ⟨_, rfl⟩
  obtain ⟨W1, hW1⟩ : ∃ W1, W1 = W0.alloc (.cells #[.int .i64 2, .int .i64 0, .int .i64 0, .int .i64 0, .int .i64 7200] 31) := ⟨_, rfl⟩
  rw [← hW1, ← hq] at S0
  have S := Lib.hid S0
  clear S0
  go_enter Try.func16, Try.ntmps16
  go_upto_region 1 with fail
  rw [← hW0]; clear hW0
  go_upto_region 2 with fail
  go_loop [4] (fun v => ∃ k : Nat, k ≤ Q ∧ v = .int .i64 k) (fun v => Q - (intOf v).toNat)
  case atStart => exact ⟨0, Nat.zero_le _, rfl⟩
  case round =>
    obtain ⟨k, hk, rfl⟩ := hrel
    by_cases hkQ : k < Q
    · have hks : k < s.size := by omega
      have hks2 : decide (k < s.size) = true := decide_eq_true hks
      have t47 := HA.out k hks hkQ
      go_wp2_with fail
      go_round
      case rel => exact ⟨k + 1, by omega, by go_num⟩
      case measure => simp [intOf]; omega
    · obtain rfl : k = Q := by omega
      clear hkQ hk
      have tz : decide (k < s.size) = false := decide_eq_false (by omega)
      rcases z0 with z0 | ⟨z0, z1, z2⟩
      · have z3 : decide (0 < D.size) = false := decide_eq_false (by omega)
        go_upto_region 5 with fail
        rw [← hD]
        go_upto_region 6 with fail
        rw [← hW1, ← hq]
        clear hW1 hq hD HA
        obtain ⟨c0, c1, c2, c3, c4, f0, f1, f2, f3, f4⟩ := S.out.seeq
        go_upto_region 29 with (go_at_call 33; refine (HN.out _).mono ?_; rintro e wn ⟨rfl, rfl⟩)
        have S2 := S.out.set 3 (.int .i64 x)
        obtain ⟨U, hU⟩ : ∃ U, U = W1.setCell ⟨q, 3, none⟩ (.int .i64 x) := ⟨_, rfl⟩
        rw [← hU] at S2
        rw [← hU]
        clear hU
        clear c0 c1 c2 c3 c4 f0 f1 f2 f3 f4
        have Z : Dc w U w.heap.size q #[.int .i64 2, .int .i64 0, .int .i64 0, .int .i64 x, .int .i64 7200] := S2
        replace S := Lib.hid Z
        clear Z
        obtain ⟨c0, c1, c2, c3, c4, f0, f1, f2, f3, f4⟩ := S.out.seeq
        go_wp2_with (go_at_call 34; refine (HX.out _).mono ?_; rintro e wc ⟨rfl, hb⟩; have S := Lib.hid (S.out.keep hb); clear hb; obtain ⟨c0, c1, c2, c3, c4, f0, f1, f2, f3, f4⟩ := S.out.seeq; obtain ⟨d0, d1, d2, d3, d4, h0, h1, h2, h3, h4⟩ := S.out.seep)
        obtain ⟨F, r0, r1, r2, r3, r4⟩ := S.out.done 2 0 0 x 7200
        show bodyPost _ _ _ _ _ (put16r wc w.heap.size 2 0 0 x 7200)
        generalize put16r wc w.heap.size 2 0 0 x 7200 = WW at *
        refine bodyPost_ret (v := .tuple #[.agg #[.int .i64 2, .int .i64 0, .int .i64 0, .int .i64 x, .int .i64 7200], .int .i64 0]) (by simp [results, Try.results16, go_sem, r0, r1, r2, r3, r4]) rfl ⟨rfl, F⟩
      · have z3 : decide (0 < D.size) = true := decide_eq_true z0
        go_upto_region 5 with fail
        rw [← hD]
        go_upto_region 6 with fail
        rw [← hW1, ← hq]
        clear hW1 hq hD HA
        obtain ⟨c0, c1, c2, c3, c4, f0, f1, f2, f3, f4⟩ := S.out.seeq
        go_upto_region 29 with (go_at_call 33; refine (HN.out _).mono ?_; rintro e wn ⟨rfl, rfl⟩)
        have S2 := S.out.set 3 (.int .i64 x)
        obtain ⟨U, hU⟩ : ∃ U, U = W1.setCell ⟨q, 3, none⟩ (.int .i64 x) := ⟨_, rfl⟩
        rw [← hU] at S2
        rw [← hU]
        clear hU
        clear c0 c1 c2 c3 c4 f0 f1 f2 f3 f4
        have Z : Dc w U w.heap.size q #[.int .i64 2, .int .i64 0, .int .i64 0, .int .i64 x, .int .i64 7200] := S2
        replace S := Lib.hid Z
        clear Z
        obtain ⟨c0, c1, c2, c3, c4, f0, f1, f2, f3, f4⟩ := S.out.seeq
        go_wp2_with (go_at_call 34; refine (HX.out _).mono ?_; rintro e wc ⟨rfl, hb⟩; have S := Lib.hid (S.out.keep hb); clear hb; obtain ⟨c0, c1, c2, c3, c4, f0, f1, f2, f3, f4⟩ := S.out.seeq; obtain ⟨d0, d1, d2, d3, d4, h0, h1, h2, h3, h4⟩ := S.out.seep)
        obtain ⟨F, r0, r1, r2, r3, r4⟩ := S.out.done 2 0 0 x 7200
        show bodyPost _ _ _ _ _ (put16r wc w.heap.size 2 0 0 x 7200)
        generalize put16r wc w.heap.size 2 0 0 x 7200 = WW at *
        refine bodyPost_ret (v := .tuple #[.agg #[.int .i64 2, .int .i64 0, .int .i64 0, .int .i64 x, .int .i64 7200], .int .i64 0]) (by simp [results, Try.results16, go_sem, r0, r1, r2, r3, r4]) rfl ⟨rfl, F⟩
set_option maxHeartbeats 8000000 in
theorem dp_N_b (s D : ByteArray) (w : World) (Q : Nat) (hQ : Q ≤ s.size) (hD : D = s.extract 0 Q) (hs : s.size ≤ 900)
    (HA : Hid (∀ k (h : k < s.size), k < Q → ((s[k].toNat : Int) != 47) = true)) (HZ : Hid (∀ h : Q < s.size, ((s[Q].toNat : Int) != 47) = false)) (x T E : Int) 
    (z0 : D.size = 0 ∨ ∃ h : 0 < D.size, ((D[0].toNat : Int) == 74) = false ∧ ((D[0].toNat : Int) == 77) = false)
    (HN : Hid (∀ w, Calls Try.prog 33 #[.string D, .int .i64 1, .int .i64 3] w fun e w' => e = .returned (.tuple #[.int .i64 x, .bool true]) ∧ w = w'))
    (hz : Q < s.size)
    (HC : Hid (∀ w, Calls Try.prog 15 #[.string (s.extract (Q + 1) s.size), .int .i64 167] w fun x w' => x = .returned (.tuple #[.int .i64 T, .int .i64 E]) ∧ Below w.heap.size w w'))
    (he : E ≠ 0)
    : Calls Try.prog 16 #[.string s] w fun xx w' => xx = .returned (.tuple #[.agg #[.int .i64 0, .int .i64 0, .int .i64 0, .int .i64 0, .int .i64 0], .int .i64 E]) ∧ Below w.heap.size w w' := by
  obtain ⟨W0, hW0⟩ : ∃ W0, W0 = w.alloc (.cells #[.int .i64 0, .int .i64 0, .int .i64 0, .int .i64 0, .int .i64 0] 31) := ⟨_, rfl⟩
  have S0 := Dc.new w
  rw [← hW0] at S0
  obtain ⟨q, hq⟩ : ∃ q, q = W0.heap.size := ⟨_, rfl⟩
  obtain ⟨W1, hW1⟩ : ∃ W1, W1 = W0.alloc (.cells #[.int .i64 2, .int .i64 0, .int .i64 0, .int .i64 0, .int .i64 7200] 31) := ⟨_, rfl⟩
  rw [← hW1, ← hq] at S0
  have S := Lib.hid S0
  clear S0
  go_enter Try.func16, Try.ntmps16
  go_upto_region 1 with fail
  rw [← hW0]; clear hW0
  go_upto_region 2 with fail
  go_loop [4] (fun v => ∃ k : Nat, k ≤ Q ∧ v = .int .i64 k) (fun v => Q - (intOf v).toNat)
  case atStart => exact ⟨0, Nat.zero_le _, rfl⟩
  case round =>
    obtain ⟨k, hk, rfl⟩ := hrel
    by_cases hkQ : k < Q
    · have hks : k < s.size := by omega
      have hks2 : decide (k < s.size) = true := decide_eq_true hks
      have t47 := HA.out k hks hkQ
      go_wp2_with fail
      go_round
      case rel => exact ⟨k + 1, by omega, by go_num⟩
      case measure => simp [intOf]; omega
    · obtain rfl : k = Q := by omega
      clear hkQ hk
      have tz : decide (k < s.size) = true := decide_eq_true hz
      have t47 := HZ.out hz
      rcases z0 with z0 | ⟨z0, z1, z2⟩
      · have z3 : decide (0 < D.size) = false := decide_eq_false (by omega)
        go_upto_region 5 with fail
        rw [← hD]
        go_upto_region 6 with fail
        rw [← hW1, ← hq]
        clear hW1 hq hD HA
        obtain ⟨c0, c1, c2, c3, c4, f0, f1, f2, f3, f4⟩ := S.out.seeq
        go_upto_region 29 with (go_at_call 33; refine (HN.out _).mono ?_; rintro e wn ⟨rfl, rfl⟩)
        have S2 := S.out.set 3 (.int .i64 x)
        obtain ⟨U, hU⟩ : ∃ U, U = W1.setCell ⟨q, 3, none⟩ (.int .i64 x) := ⟨_, rfl⟩
        rw [← hU] at S2
        rw [← hU]
        clear hU
        clear c0 c1 c2 c3 c4 f0 f1 f2 f3 f4
        have Z : Dc w U w.heap.size q #[.int .i64 2, .int .i64 0, .int .i64 0, .int .i64 x, .int .i64 7200] := S2
        replace S := Lib.hid Z
        clear Z
        obtain ⟨c0, c1, c2, c3, c4, f0, f1, f2, f3, f4⟩ := S.out.seeq
        have he2 : (E != 0) = true := ne_yes he
        clear he
        go_wp2_with (go_at_call 15; refine (HC.out _).mono ?_; rintro e wk ⟨rfl, hb⟩; have S := Lib.hid (S.out.keep hb); clear hb; obtain ⟨c0, c1, c2, c3, c4, f0, f1, f2, f3, f4⟩ := S.out.seeq; obtain ⟨d0, d1, d2, d3, d4, h0, h1, h2, h3, h4⟩ := S.out.seep)
        obtain ⟨F, r0, r1, r2, r3, r4⟩ := S.out.done 0 0 0 0 0
        show bodyPost _ _ _ _ _ (put16r wk w.heap.size 0 0 0 0 0)
        generalize put16r wk w.heap.size 0 0 0 0 0 = WW at *
        refine bodyPost_ret (v := .tuple #[.agg #[.int .i64 0, .int .i64 0, .int .i64 0, .int .i64 0, .int .i64 0], .int .i64 E]) (by simp [results, Try.results16, go_sem, r0, r1, r2, r3, r4]) rfl ⟨rfl, F⟩
      · have z3 : decide (0 < D.size) = true := decide_eq_true z0
        go_upto_region 5 with fail
        rw [← hD]
        go_upto_region 6 with fail
        rw [← hW1, ← hq]
        clear hW1 hq hD HA
        obtain ⟨c0, c1, c2, c3, c4, f0, f1, f2, f3, f4⟩ := S.out.seeq
        go_upto_region 29 with (go_at_call 33; refine (HN.out _).mono ?_; rintro e wn ⟨rfl, rfl⟩)
        have S2 := S.out.set 3 (.int .i64 x)
        obtain ⟨U, hU⟩ : ∃ U, U = W1.setCell ⟨q, 3, none⟩ (.int .i64 x) := ⟨_, rfl⟩
        rw [← hU] at S2
        rw [← hU]
        clear hU
        clear c0 c1 c2 c3 c4 f0 f1 f2 f3 f4
        have Z : Dc w U w.heap.size q #[.int .i64 2, .int .i64 0, .int .i64 0, .int .i64 x, .int .i64 7200] := S2
        replace S := Lib.hid Z
        clear Z
        obtain ⟨c0, c1, c2, c3, c4, f0, f1, f2, f3, f4⟩ := S.out.seeq
        have he2 : (E != 0) = true := ne_yes he
        clear he
        go_wp2_with (go_at_call 15; refine (HC.out _).mono ?_; rintro e wk ⟨rfl, hb⟩; have S := Lib.hid (S.out.keep hb); clear hb; obtain ⟨c0, c1, c2, c3, c4, f0, f1, f2, f3, f4⟩ := S.out.seeq; obtain ⟨d0, d1, d2, d3, d4, h0, h1, h2, h3, h4⟩ := S.out.seep)
        obtain ⟨F, r0, r1, r2, r3, r4⟩ := S.out.done 0 0 0 0 0
        show bodyPost _ _ _ _ _ (put16r wk w.heap.size 0 0 0 0 0)
        generalize put16r wk w.heap.size 0 0 0 0 0 = WW at *
        refine bodyPost_ret (v := .tuple #[.agg #[.int .i64 0, .int .i64 0, .int .i64 0, .int .i64 0, .int .i64 0], .int .i64 E]) (by simp [results, Try.results16, go_sem, r0, r1, r2, r3, r4]) rfl ⟨rfl, F⟩
set_option maxHeartbeats 8000000 in
theorem dp_N_cw (s D : ByteArray) (w : World) (Q : Nat) (hQ : Q ≤ s.size) (hD : D = s.extract 0 Q) (hs : s.size ≤ 900)
    (HA : Hid (∀ k (h : k < s.size), k < Q → ((s[k].toNat : Int) != 47) = true)) (HZ : Hid (∀ h : Q < s.size, ((s[Q].toNat : Int) != 47) = false)) (x T R : Int) 
    (z0 : D.size = 0 ∨ ∃ h : 0 < D.size, ((D[0].toNat : Int) == 74) = false ∧ ((D[0].toNat : Int) == 77) = false)
    (HN : Hid (∀ w, Calls Try.prog 33 #[.string D, .int .i64 1, .int .i64 3] w fun e w' => e = .returned (.tuple #[.int .i64 x, .bool true]) ∧ w = w'))
    (hz : Q < s.size)
    (HC : Hid (∀ w, Calls Try.prog 15 #[.string (s.extract (Q + 1) s.size), .int .i64 167] w fun x w' => x = .returned (.tuple #[.int .i64 T, .int .i64 0]) ∧ Below w.heap.size w w'))
    (HX : Hid (∀ w, Calls Try.prog 34 #[.agg #[.int .i64 2, .int .i64 0, .int .i64 0, .int .i64 x, .int .i64 T]] w fun e w' => e = .returned (.int .i64 R) ∧ Below w.heap.size w w'))
    (hr : R ≠ 0)
    : Calls Try.prog 16 #[.string s] w fun xx w' => xx = .returned (.tuple #[.agg #[.int .i64 0, .int .i64 0, .int .i64 0, .int .i64 0, .int .i64 0], .int .i64 R]) ∧ Below w.heap.size w w' := by
  obtain ⟨W0, hW0⟩ : ∃ W0, W0 = w.alloc (.cells #[.int .i64 0, .int .i64 0, .int .i64 0, .int .i64 0, .int .i64 0] 31) := ⟨_, rfl⟩
  have S0 := Dc.new w
  rw [← hW0] at S0
  obtain ⟨q, hq⟩ : ∃ q, q = W0.heap.size := ⟨_, rfl⟩
  obtain ⟨W1, hW1⟩ : ∃ W1, W1 = W0.alloc (.cells #[.int .i64 2, .int .i64 0, .int .i64 0, .int .i64 0, .int .i64 7200] 31) := ⟨_, rfl⟩
  rw [← hW1, ← hq] at S0
  have S := Lib.hid S0
  clear S0
  go_enter Try.func16, Try.ntmps16
  go_upto_region 1 with fail
  rw [← hW0]; clear hW0
  go_upto_region 2 with fail
  go_loop [4] (fun v => ∃ k : Nat, k ≤ Q ∧ v = .int .i64 k) (fun v => Q - (intOf v).toNat)
  case atStart => exact ⟨0, Nat.zero_le _, rfl⟩
  case round =>
    obtain ⟨k, hk, rfl⟩ := hrel
    by_cases hkQ : k < Q
    · have hks : k < s.size := by omega
      have hks2 : decide (k < s.size) = true := decide_eq_true hks
      have t47 := HA.out k hks hkQ
      go_wp2_with fail
      go_round
      case rel => exact ⟨k + 1, by omega, by go_num⟩
      case measure => simp [intOf]; omega
    · obtain rfl : k = Q := by omega
      clear hkQ hk
      have tz : decide (k < s.size) = true := decide_eq_true hz
      have t47 := HZ.out hz
      rcases z0 with z0 | ⟨z0, z1, z2⟩
      · have z3 : decide (0 < D.size) = false := decide_eq_false (by omega)
        have hr2 : (R != 0) = true := ne_yes hr
        clear hr
        go_upto_region 5 with fail
        rw [← hD]
        go_upto_region 6 with fail
        rw [← hW1, ← hq]
        clear hW1 hq hD HA
        obtain ⟨c0, c1, c2, c3, c4, f0, f1, f2, f3, f4⟩ := S.out.seeq
        go_upto_region 29 with (go_at_call 33; refine (HN.out _).mono ?_; rintro e wn ⟨rfl, rfl⟩)
        have S2 := S.out.set 3 (.int .i64 x)
        obtain ⟨U, hU⟩ : ∃ U, U = W1.setCell ⟨q, 3, none⟩ (.int .i64 x) := ⟨_, rfl⟩
        rw [← hU] at S2
        rw [← hU]
        clear hU
        clear c0 c1 c2 c3 c4 f0 f1 f2 f3 f4
        have Z : Dc w U w.heap.size q #[.int .i64 2, .int .i64 0, .int .i64 0, .int .i64 x, .int .i64 7200] := S2
        replace S := Lib.hid Z
        clear Z
        obtain ⟨c0, c1, c2, c3, c4, f0, f1, f2, f3, f4⟩ := S.out.seeq
        go_upto_region 36 with (go_at_call 15; refine (HC.out _).mono ?_; rintro e wk ⟨rfl, hb⟩; have S := Lib.hid (S.out.keep hb); clear hb; obtain ⟨c0, c1, c2, c3, c4, f0, f1, f2, f3, f4⟩ := S.out.seeq)
        have S3 := S.out.set 4 (.int .i64 T)
        obtain ⟨V, hV⟩ : ∃ V, V = wk.setCell ⟨q, 4, none⟩ (.int .i64 T) := ⟨_, rfl⟩
        rw [← hV] at S3
        rw [← hV]
        clear hV c0 c1 c2 c3 c4 f0 f1 f2 f3 f4
        have Z : Dc w V w.heap.size q #[.int .i64 2, .int .i64 0, .int .i64 0, .int .i64 x, .int .i64 T] := S3
        replace S := Lib.hid Z
        clear Z S3
        obtain ⟨c0, c1, c2, c3, c4, f0, f1, f2, f3, f4⟩ := S.out.seeq
        go_wp2_with (go_at_call 34; refine (HX.out _).mono ?_; rintro e wc ⟨rfl, hb⟩; have S := Lib.hid (S.out.keep hb); clear hb; obtain ⟨c0, c1, c2, c3, c4, f0, f1, f2, f3, f4⟩ := S.out.seeq; obtain ⟨d0, d1, d2, d3, d4, h0, h1, h2, h3, h4⟩ := S.out.seep)
        obtain ⟨F, r0, r1, r2, r3, r4⟩ := S.out.done 0 0 0 0 0
        show bodyPost _ _ _ _ _ (put16r wc w.heap.size 0 0 0 0 0)
        generalize put16r wc w.heap.size 0 0 0 0 0 = WW at *
        refine bodyPost_ret (v := .tuple #[.agg #[.int .i64 0, .int .i64 0, .int .i64 0, .int .i64 0, .int .i64 0], .int .i64 R]) (by simp [results, Try.results16, go_sem, r0, r1, r2, r3, r4]) rfl ⟨rfl, F⟩
      · have z3 : decide (0 < D.size) = true := decide_eq_true z0
        have hr2 : (R != 0) = true := ne_yes hr
        clear hr
        go_upto_region 5 with fail
        rw [← hD]
        go_upto_region 6 with fail
        rw [← hW1, ← hq]
        clear hW1 hq hD HA
        obtain ⟨c0, c1, c2, c3, c4, f0, f1, f2, f3, f4⟩ := S.out.seeq
        go_upto_region 29 with (go_at_call 33; refine (HN.out _).mono ?_; rintro e wn ⟨rfl, rfl⟩)
        have S2 := S.out.set 3 (.int .i64 x)
        obtain ⟨U, hU⟩ : ∃ U, U = W1.setCell ⟨q, 3, none⟩ (.int .i64 x) := ⟨_, rfl⟩
        rw [← hU] at S2
        rw [← hU]
        clear hU
        clear c0 c1 c2 c3 c4 f0 f1 f2 f3 f4
        have Z : Dc w U w.heap.size q #[.int .i64 2, .int .i64 0, .int .i64 0, .int .i64 x, .int .i64 7200] := S2
        replace S := Lib.hid Z
        clear Z
        obtain ⟨c0, c1, c2, c3, c4, f0, f1, f2, f3, f4⟩ := S.out.seeq
        go_upto_region 36 with (go_at_call 15; refine (HC.out _).mono ?_; rintro e wk ⟨rfl, hb⟩; have S := Lib.hid (S.out.keep hb); clear hb; obtain ⟨c0, c1, c2, c3, c4, f0, f1, f2, f3, f4⟩ := S.out.seeq)
        have S3 := S.out.set 4 (.int .i64 T)
        obtain ⟨V, hV⟩ : ∃ V, V = wk.setCell ⟨q, 4, none⟩ (.int .i64 T) := ⟨_, rfl⟩
        rw [← hV] at S3
        rw [← hV]
        clear hV c0 c1 c2 c3 c4 f0 f1 f2 f3 f4
        have Z : Dc w V w.heap.size q #[.int .i64 2, .int .i64 0, .int .i64 0, .int .i64 x, .int .i64 T] := S3
        replace S := Lib.hid Z
        clear Z S3
        obtain ⟨c0, c1, c2, c3, c4, f0, f1, f2, f3, f4⟩ := S.out.seeq
        go_wp2_with (go_at_call 34; refine (HX.out _).mono ?_; rintro e wc ⟨rfl, hb⟩; have S := Lib.hid (S.out.keep hb); clear hb; obtain ⟨c0, c1, c2, c3, c4, f0, f1, f2, f3, f4⟩ := S.out.seeq; obtain ⟨d0, d1, d2, d3, d4, h0, h1, h2, h3, h4⟩ := S.out.seep)
        obtain ⟨F, r0, r1, r2, r3, r4⟩ := S.out.done 0 0 0 0 0
        show bodyPost _ _ _ _ _ (put16r wc w.heap.size 0 0 0 0 0)
        generalize put16r wc w.heap.size 0 0 0 0 0 = WW at *
        refine bodyPost_ret (v := .tuple #[.agg #[.int .i64 0, .int .i64 0, .int .i64 0, .int .i64 0, .int .i64 0], .int .i64 R]) (by simp [results, Try.results16, go_sem, r0, r1, r2, r3, r4]) rfl ⟨rfl, F⟩
set_option maxHeartbeats 8000000 in
theorem dp_N_cg (s D : ByteArray) (w : World) (Q : Nat) (hQ : Q ≤ s.size) (hD : D = s.extract 0 Q) (hs : s.size ≤ 900)
    (HA : Hid (∀ k (h : k < s.size), k < Q → ((s[k].toNat : Int) != 47) = true)) (HZ : Hid (∀ h : Q < s.size, ((s[Q].toNat : Int) != 47) = false)) (x T : Int) 
    (z0 : D.size = 0 ∨ ∃ h : 0 < D.size, ((D[0].toNat : Int) == 74) = false ∧ ((D[0].toNat : Int) == 77) = false)
    (HN : Hid (∀ w, Calls Try.prog 33 #[.string D, .int .i64 1, .int .i64 3] w fun e w' => e = .returned (.tuple #[.int .i64 x, .bool true]) ∧ w = w'))
    (hz : Q < s.size)
    (HC : Hid (∀ w, Calls Try.prog 15 #[.string (s.extract (Q + 1) s.size), .int .i64 167] w fun x w' => x = .returned (.tuple #[.int .i64 T, .int .i64 0]) ∧ Below w.heap.size w w'))
    (HX : Hid (∀ w, Calls Try.prog 34 #[.agg #[.int .i64 2, .int .i64 0, .int .i64 0, .int .i64 x, .int .i64 T]] w fun e w' => e = .returned (.int .i64 0) ∧ Below w.heap.size w w'))
    : Calls Try.prog 16 #[.string s] w fun xx w' => xx = .returned (.tuple #[.agg #[.int .i64 2, .int .i64 0, .int .i64 0, .int .i64 x, .int .i64 T], .int .i64 0]) ∧ Below w.heap.size w w' := by
  obtain ⟨W0, hW0⟩ : ∃ W0, W0 = w.alloc (.cells #[.int .i64 0, .int .i64 0, .int .i64 0, .int .i64 0, .int .i64 0] 31) := ⟨_, rfl⟩
  have S0 := Dc.new w
  rw [← hW0] at S0
  obtain ⟨q, hq⟩ : ∃ q, q = W0.heap.size := ⟨_, rfl⟩
  obtain ⟨W1, hW1⟩ : ∃ W1, W1 = W0.alloc (.cells #[.int .i64 2, .int .i64 0, .int .i64 0, .int .i64 0, .int .i64 7200] 31) := ⟨_, rfl⟩
  rw [← hW1, ← hq] at S0
  have S := Lib.hid S0
  clear S0
  go_enter Try.func16, Try.ntmps16
  go_upto_region 1 with fail
  rw [← hW0]; clear hW0
  go_upto_region 2 with fail
  go_loop [4] (fun v => ∃ k : Nat, k ≤ Q ∧ v = .int .i64 k) (fun v => Q - (intOf v).toNat)
  case atStart => exact ⟨0, Nat.zero_le _, rfl⟩
  case round =>
    obtain ⟨k, hk, rfl⟩ := hrel
    by_cases hkQ : k < Q
    · have hks : k < s.size := by omega
      have hks2 : decide (k < s.size) = true := decide_eq_true hks
      have t47 := HA.out k hks hkQ
      go_wp2_with fail
      go_round
      case rel => exact ⟨k + 1, by omega, by go_num⟩
      case measure => simp [intOf]; omega
    · obtain rfl : k = Q := by omega
      clear hkQ hk
      have tz : decide (k < s.size) = true := decide_eq_true hz
      have t47 := HZ.out hz
      rcases z0 with z0 | ⟨z0, z1, z2⟩
      · have z3 : decide (0 < D.size) = false := decide_eq_false (by omega)
        go_upto_region 5 with fail
        rw [← hD]
        go_upto_region 6 with fail
        rw [← hW1, ← hq]
        clear hW1 hq hD HA
        obtain ⟨c0, c1, c2, c3, c4, f0, f1, f2, f3, f4⟩ := S.out.seeq
        go_upto_region 29 with (go_at_call 33; refine (HN.out _).mono ?_; rintro e wn ⟨rfl, rfl⟩)
        have S2 := S.out.set 3 (.int .i64 x)
        obtain ⟨U, hU⟩ : ∃ U, U = W1.setCell ⟨q, 3, none⟩ (.int .i64 x) := ⟨_, rfl⟩
        rw [← hU] at S2
        rw [← hU]
        clear hU
        clear c0 c1 c2 c3 c4 f0 f1 f2 f3 f4
        have Z : Dc w U w.heap.size q #[.int .i64 2, .int .i64 0, .int .i64 0, .int .i64 x, .int .i64 7200] := S2
        replace S := Lib.hid Z
        clear Z
        obtain ⟨c0, c1, c2, c3, c4, f0, f1, f2, f3, f4⟩ := S.out.seeq
        go_upto_region 36 with (go_at_call 15; refine (HC.out _).mono ?_; rintro e wk ⟨rfl, hb⟩; have S := Lib.hid (S.out.keep hb); clear hb; obtain ⟨c0, c1, c2, c3, c4, f0, f1, f2, f3, f4⟩ := S.out.seeq)
        have S3 := S.out.set 4 (.int .i64 T)
        obtain ⟨V, hV⟩ : ∃ V, V = wk.setCell ⟨q, 4, none⟩ (.int .i64 T) := ⟨_, rfl⟩
        rw [← hV] at S3
        rw [← hV]
        clear hV c0 c1 c2 c3 c4 f0 f1 f2 f3 f4
        have Z : Dc w V w.heap.size q #[.int .i64 2, .int .i64 0, .int .i64 0, .int .i64 x, .int .i64 T] := S3
        replace S := Lib.hid Z
        clear Z S3
        obtain ⟨c0, c1, c2, c3, c4, f0, f1, f2, f3, f4⟩ := S.out.seeq
        go_wp2_with (go_at_call 34; refine (HX.out _).mono ?_; rintro e wc ⟨rfl, hb⟩; have S := Lib.hid (S.out.keep hb); clear hb; obtain ⟨c0, c1, c2, c3, c4, f0, f1, f2, f3, f4⟩ := S.out.seeq; obtain ⟨d0, d1, d2, d3, d4, h0, h1, h2, h3, h4⟩ := S.out.seep)
        obtain ⟨F, r0, r1, r2, r3, r4⟩ := S.out.done 2 0 0 x T
        show bodyPost _ _ _ _ _ (put16r wc w.heap.size 2 0 0 x T)
        generalize put16r wc w.heap.size 2 0 0 x T = WW at *
        refine bodyPost_ret (v := .tuple #[.agg #[.int .i64 2, .int .i64 0, .int .i64 0, .int .i64 x, .int .i64 T], .int .i64 0]) (by simp [results, Try.results16, go_sem, r0, r1, r2, r3, r4]) rfl ⟨rfl, F⟩
      · have z3 : decide (0 < D.size) = true := decide_eq_true z0
        go_upto_region 5 with fail
        rw [← hD]
        go_upto_region 6 with fail
        rw [← hW1, ← hq]
        clear hW1 hq hD HA
        obtain ⟨c0, c1, c2, c3, c4, f0, f1, f2, f3, f4⟩ := S.out.seeq
        go_upto_region 29 with (go_at_call 33; refine (HN.out _).mono ?_; rintro e wn ⟨rfl, rfl⟩)
        have S2 := S.out.set 3 (.int .i64 x)
        obtain ⟨U, hU⟩ : ∃ U, U = W1.setCell ⟨q, 3, none⟩ (.int .i64 x) := ⟨_, rfl⟩
        rw [← hU] at S2
        rw [← hU]
        clear hU
        clear c0 c1 c2 c3 c4 f0 f1 f2 f3 f4
        have Z : Dc w U w.heap.size q #[.int .i64 2, .int .i64 0, .int .i64 0, .int .i64 x, .int .i64 7200] := S2
        replace S := Lib.hid Z
        clear Z
        obtain ⟨c0, c1, c2, c3, c4, f0, f1, f2, f3, f4⟩ := S.out.seeq
        go_upto_region 36 with (go_at_call 15; refine (HC.out _).mono ?_; rintro e wk ⟨rfl, hb⟩; have S := Lib.hid (S.out.keep hb); clear hb; obtain ⟨c0, c1, c2, c3, c4, f0, f1, f2, f3, f4⟩ := S.out.seeq)
        have S3 := S.out.set 4 (.int .i64 T)
        obtain ⟨V, hV⟩ : ∃ V, V = wk.setCell ⟨q, 4, none⟩ (.int .i64 T) := ⟨_, rfl⟩
        rw [← hV] at S3
        rw [← hV]
        clear hV c0 c1 c2 c3 c4 f0 f1 f2 f3 f4
        have Z : Dc w V w.heap.size q #[.int .i64 2, .int .i64 0, .int .i64 0, .int .i64 x, .int .i64 T] := S3
        replace S := Lib.hid Z
        clear Z S3
        obtain ⟨c0, c1, c2, c3, c4, f0, f1, f2, f3, f4⟩ := S.out.seeq
        go_wp2_with (go_at_call 34; refine (HX.out _).mono ?_; rintro e wc ⟨rfl, hb⟩; have S := Lib.hid (S.out.keep hb); clear hb; obtain ⟨c0, c1, c2, c3, c4, f0, f1, f2, f3, f4⟩ := S.out.seeq; obtain ⟨d0, d1, d2, d3, d4, h0, h1, h2, h3, h4⟩ := S.out.seep)
        obtain ⟨F, r0, r1, r2, r3, r4⟩ := S.out.done 2 0 0 x T
        show bodyPost _ _ _ _ _ (put16r wc w.heap.size 2 0 0 x T)
        generalize put16r wc w.heap.size 2 0 0 x T = WW at *
        refine bodyPost_ret (v := .tuple #[.agg #[.int .i64 2, .int .i64 0, .int .i64 0, .int .i64 x, .int .i64 T], .int .i64 0]) (by simp [results, Try.results16, go_sem, r0, r1, r2, r3, r4]) rfl ⟨rfl, F⟩
end Go.Proofs.Ytkhcneacjnpcnaa
