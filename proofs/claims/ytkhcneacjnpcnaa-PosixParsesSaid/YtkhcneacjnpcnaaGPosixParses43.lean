/- Merged: RulDc. -/
import Derived.Test.YtkhcneacjnpcnaaGPosixParses40
namespace Go.Proofs.Ytkhcneacjnpcnaa
open Go.RowKit
set_option linter.unusedVariables false
set_option linter.unusedSimpArgs false

theorem cell_off16 {W : World} {g q j : Nat} {v : Value} (h : W.cell? ⟨g, j, none⟩ = some v) (hne : g ≠ q) (i : Nat) (u : Value) : (W.setCell ⟨q, i, none⟩ u).cell? ⟨g, j, none⟩ = some v := by
  have e : (W.setCell ⟨q, i, none⟩ u).heap[g]? = W.heap[g]? := blk_set rfl hne i u
  unfold World.cell? at h ⊢
  simp only [e]
  exact h
set_option maxHeartbeats 8000000 in
theorem dp_M3 (s D : ByteArray) (w : World) (Q : Nat) (hQ : Q ≤ s.size) (hD : D = s.extract 0 Q) (hs : s.size ≤ 900)
    (HA : Hid (∀ k (h : k < s.size), k < Q → ((s[k].toNat : Int) != 47) = true)) (HZ : Hid (∀ h : Q < s.size, ((s[Q].toNat : Int) != 47) = false)) (ls : List (List UInt8)) (hls : (ls.length == 3) = false) (hls1 : 1 ≤ ls.length) 
    (z0 : 0 < D.size) (z1 : ((D[0].toNat : Int) == 74) = false) (z2 : ((D[0].toNat : Int) == 77) = true)
    (HP : Hid (∀ w, Calls Try.prog 32 #[.string (D.extract 1 D.size), .int .u8 46] w fun x w' => ∃ v, x = .returned v ∧ Os w' w.heap.size v ls ∧ Below w.heap.size w w'))
    : Calls Try.prog 16 #[.string s] w fun xx w' => xx = .returned (.tuple #[.agg #[.int .i64 0, .int .i64 0, .int .i64 0, .int .i64 0, .int .i64 0], .int .i64 2]) ∧ Below w.heap.size w w' := by
  obtain ⟨W0, hW0⟩ : ∃ W0, W0 = w.alloc (.cells #[.int .i64 0, .int .i64 0, .int .i64 0, .int .i64 0, .int .i64 0] 31) := ⟨_, rfl⟩
  have S0 := Dc.new w
  rw [← hW0] at S0
  obtain ⟨q, hq⟩ : ∃ q, q = W0.heap.size := ⟨_, rfl⟩
  obtain ⟨W1, hW1⟩ : ∃ W1, W1 = W0.alloc (.cells #[.int .i64 2, .int .i64 0, .int .i64 0, .int .i64 0, .int .i64 7200] 31) := ⟨_, rfl⟩
  rw [← hW1, ← hq] at S0
  have S := Lib.hid S0
  clear S0
  go_enter Try.func16, Try.ntmps16
  go_upto_region 1 with fail
  rw [← hW0]; clear hW0
  go_upto_region 2 with fail
  go_loop [4] (fun v => ∃ k : Nat, k ≤ Q ∧ v = .int .i64 k) (fun v => Q - (intOf v).toNat)
  case atStart => exact ⟨0, Nat.zero_le _, rfl⟩
  case round =>
    obtain ⟨k, hk, rfl⟩ := hrel
    by_cases hkQ : k < Q
    · have hks : k < s.size := by omega
      have hks2 : decide (k < s.size) = true := decide_eq_true hks
      have t47 := HA.out k hks hkQ
      go_wp2_with fail
      go_round
      case rel => exact ⟨k + 1, by omega, by go_num⟩
      case measure => simp [intOf]; omega
    · obtain rfl : k = Q := by omega
      clear hkQ hk
      rcases Nat.lt_or_ge k s.size with hz | hz
      · have tz : decide (k < s.size) = true := decide_eq_true hz
        have t47 := HZ.out hz
        have z3 : decide (0 < D.size) = true := decide_eq_true z0
        have hls2 : ((ls.length : Int) == 3) = false := by simp at hls ⊢; omega
        obtain ⟨n9, hn9⟩ : ∃ n9, n9 = ls.length := ⟨_, rfl⟩
        rw [← hn9] at hls hls2
        go_upto_region 5 with fail
        rw [← hD]
        go_upto_region 6 with fail
        rw [← hW1, ← hq]
        clear hW1 hq hD HA
        obtain ⟨c0, c1, c2, c3, c4, f0, f1, f2, f3, f4⟩ := S.out.seeq
        have S1 := Lib.hid (S.out.set 0 (.int .i64 3))
        have SS := S1
        go_wp2_with (first
          | (go_at_call 32; refine (HP.out _).mono ?_; rintro x9 wp ⟨v9, rfl, ho, hb⟩; obtain ⟨g, cc, rfl, hg⟩ := ho.pos16 (by exact hls1); have gq : g ≠ q := (by have := bk_lt S1.out.bq; omega); have S2 := Lib.hid (S1.out.keep hb); obtain ⟨u0, u1, u2, u3, u4, u5, u6, u7, u8, u9⟩ := S2.out.seeq; clear ho hb hg))
        refine wp_loop_rounds 1 ?_
        rw [rounds_succ]
        go_upto_region 29 with (first
          | (go_at_call 32; refine (HP.out _).mono ?_; rintro x9 wp ⟨v9, rfl, ho, hb⟩; obtain ⟨g, cc, rfl, hg⟩ := ho.pos16 (by exact hls1); have gq : g ≠ q := (by have := bk_lt S1.out.bq; omega); have S2 := Lib.hid (S1.out.keep hb); obtain ⟨u0, u1, u2, u3, u4, u5, u6, u7, u8, u9⟩ := S2.out.seeq; clear ho hb hg))
        have S9 := S2.out
        obtain ⟨U, hU⟩ : ∃ U, U = wp := ⟨_, rfl⟩
        rw [← hU] at S9
        rw [← hU]
        clear hU
        skip
        have Z : Dc w U w.heap.size q #[.int .i64 3, .int .i64 0, .int .i64 0, .int .i64 0, .int .i64 7200] := S9
        replace S := Lib.hid Z
        clear Z
        obtain ⟨d0, d1, d2, d3, d4, h0, h1, h2, h3, h4⟩ := S.out.seep
        go_wp2_with fail
        obtain ⟨F, r0, r1, r2, r3, r4⟩ := S.out.done 0 0 0 0 0
        show bodyPost _ _ _ _ _ (put16r U w.heap.size 0 0 0 0 0)
        generalize put16r U w.heap.size 0 0 0 0 0 = WW at *
        refine bodyPost_ret (v := .tuple #[.agg #[.int .i64 0, .int .i64 0, .int .i64 0, .int .i64 0, .int .i64 0], .int .i64 2]) (by simp [results, Try.results16, go_sem, r0, r1, r2, r3, r4]) rfl ⟨rfl, F⟩
      · have tz : decide (k < s.size) = false := decide_eq_false (by omega)
        have z3 : decide (0 < D.size) = true := decide_eq_true z0
        have hls2 : ((ls.length : Int) == 3) = false := by simp at hls ⊢; omega
        obtain ⟨n9, hn9⟩ : ∃ n9, n9 = ls.length := ⟨_, rfl⟩
        rw [← hn9] at hls hls2
        go_upto_region 5 with fail
        rw [← hD]
        go_upto_region 6 with fail
        rw [← hW1, ← hq]
        clear hW1 hq hD HA
        obtain ⟨c0, c1, c2, c3, c4, f0, f1, f2, f3, f4⟩ := S.out.seeq
        have S1 := Lib.hid (S.out.set 0 (.int .i64 3))
        have SS := S1
        go_wp2_with (first
          | (go_at_call 32; refine (HP.out _).mono ?_; rintro x9 wp ⟨v9, rfl, ho, hb⟩; obtain ⟨g, cc, rfl, hg⟩ := ho.pos16 (by exact hls1); have gq : g ≠ q := (by have := bk_lt S1.out.bq; omega); have S2 := Lib.hid (S1.out.keep hb); obtain ⟨u0, u1, u2, u3, u4, u5, u6, u7, u8, u9⟩ := S2.out.seeq; clear ho hb hg))
        refine wp_loop_rounds 1 ?_
        rw [rounds_succ]
        go_upto_region 29 with (first
          | (go_at_call 32; refine (HP.out _).mono ?_; rintro x9 wp ⟨v9, rfl, ho, hb⟩; obtain ⟨g, cc, rfl, hg⟩ := ho.pos16 (by exact hls1); have gq : g ≠ q := (by have := bk_lt S1.out.bq; omega); have S2 := Lib.hid (S1.out.keep hb); obtain ⟨u0, u1, u2, u3, u4, u5, u6, u7, u8, u9⟩ := S2.out.seeq; clear ho hb hg))
        have S9 := S2.out
        obtain ⟨U, hU⟩ : ∃ U, U = wp := ⟨_, rfl⟩
        rw [← hU] at S9
        rw [← hU]
        clear hU
        skip
        have Z : Dc w U w.heap.size q #[.int .i64 3, .int .i64 0, .int .i64 0, .int .i64 0, .int .i64 7200] := S9
        replace S := Lib.hid Z
        clear Z
        obtain ⟨d0, d1, d2, d3, d4, h0, h1, h2, h3, h4⟩ := S.out.seep
        go_wp2_with fail
        obtain ⟨F, r0, r1, r2, r3, r4⟩ := S.out.done 0 0 0 0 0
        show bodyPost _ _ _ _ _ (put16r U w.heap.size 0 0 0 0 0)
        generalize put16r U w.heap.size 0 0 0 0 0 = WW at *
        refine bodyPost_ret (v := .tuple #[.agg #[.int .i64 0, .int .i64 0, .int .i64 0, .int .i64 0, .int .i64 0], .int .i64 2]) (by simp [results, Try.results16, go_sem, r0, r1, r2, r3, r4]) rfl ⟨rfl, F⟩
set_option maxHeartbeats 8000000 in
theorem dp_Mp0 (s D : ByteArray) (w : World) (Q : Nat) (hQ : Q ≤ s.size) (hD : D = s.extract 0 Q) (hs : s.size ≤ 900)
    (HA : Hid (∀ k (h : k < s.size), k < Q → ((s[k].toNat : Int) != 47) = true)) (HZ : Hid (∀ h : Q < s.size, ((s[Q].toNat : Int) != 47) = false)) (a b c : List UInt8) 
    (z0 : 0 < D.size) (z1 : ((D[0].toNat : Int) == 74) = false) (z2 : ((D[0].toNat : Int) == 77) = true)
    (HP : Hid (∀ w, Calls Try.prog 32 #[.string (D.extract 1 D.size), .int .u8 46] w fun x w' => ∃ v, x = .returned v ∧ Os w' w.heap.size v [a, b, c] ∧ Below w.heap.size w w'))
    (N0 : Hid (∀ w, Calls Try.prog 33 #[.string ⟨a.toArray⟩, .int .i64 1, .int .i64 2] w fun e w' => e = .returned (.tuple #[.int .i64 0, .bool false]) ∧ w = w'))
    : Calls Try.prog 16 #[.string s] w fun xx w' => xx = .returned (.tuple #[.agg #[.int .i64 0, .int .i64 0, .int .i64 0, .int .i64 0, .int .i64 0], .int .i64 2]) ∧ Below w.heap.size w w' := by
  obtain ⟨W0, hW0⟩ : ∃ W0, W0 = w.alloc (.cells #[.int .i64 0, .int .i64 0, .int .i64 0, .int .i64 0, .int .i64 0] 31) := ⟨_, rfl⟩
  have S0 := Dc.new w
  rw [← hW0] at S0
  obtain ⟨q, hq⟩ : ∃ q, q = W0.heap.size := ⟨_, rfl⟩
  obtain ⟨W1, hW1⟩ : ∃ W1, W1 = W0.alloc (.cells #[.int .i64 2, .int .i64 0, .int .i64 0, .int .i64 0, .int .i64 7200] 31) := ⟨_, rfl⟩
  rw [← hW1, ← hq] at S0
  have S := Lib.hid S0
  clear S0
  go_enter Try.func16, Try.ntmps16
  go_upto_region 1 with fail
  rw [← hW0]; clear hW0
  go_upto_region 2 with fail
  go_loop [4] (fun v => ∃ k : Nat, k ≤ Q ∧ v = .int .i64 k) (fun v => Q - (intOf v).toNat)
  case atStart => exact ⟨0, Nat.zero_le _, rfl⟩
  case round =>
    obtain ⟨k, hk, rfl⟩ := hrel
    by_cases hkQ : k < Q
    · have hks : k < s.size := by omega
      have hks2 : decide (k < s.size) = true := decide_eq_true hks
      have t47 := HA.out k hks hkQ
      go_wp2_with fail
      go_round
      case rel => exact ⟨k + 1, by omega, by go_num⟩
      case measure => simp [intOf]; omega
    · obtain rfl : k = Q := by omega
      clear hkQ hk
      rcases Nat.lt_or_ge k s.size with hz | hz
      · have tz : decide (k < s.size) = true := decide_eq_true hz
        have t47 := HZ.out hz
        have z3 : decide (0 < D.size) = true := decide_eq_true z0
        go_upto_region 5 with fail
        rw [← hD]
        go_upto_region 6 with fail
        rw [← hW1, ← hq]
        clear hW1 hq hD HA
        obtain ⟨c0, c1, c2, c3, c4, f0, f1, f2, f3, f4⟩ := S.out.seeq
        have S1 := Lib.hid (S.out.set 0 (.int .i64 3))
        have SS := S1
        go_wp2_with (first
          | (go_at_call 32; refine (HP.out _).mono ?_; rintro x9 wp ⟨v9, rfl, ho, hb⟩; obtain ⟨g, cc, rfl, hg⟩ := ho.pos16 (by simp); have gq : g ≠ q := (by have := bk_lt S1.out.bq; omega); have e0 : wp.cell? ⟨g, 0, none⟩ = some (.string ⟨a.toArray⟩) := ho.cell16 (j := 0) rfl; have S2 := Lib.hid (S1.out.keep hb); obtain ⟨u0, u1, u2, u3, u4, u5, u6, u7, u8, u9⟩ := S2.out.seeq; have S3 := Lib.hid (S2.out.set 1 (.int .i64 0)); clear ho hb hg)
          | (go_at_call 33; with_reducible refine (N0.out _).mono ?_; rintro e wn ⟨rfl, rfl⟩))
        refine wp_loop_rounds 2 ?_
        rw [rounds_succ]
        go_wp2_with (first
          | (go_at_call 32; refine (HP.out _).mono ?_; rintro x9 wp ⟨v9, rfl, ho, hb⟩; obtain ⟨g, cc, rfl, hg⟩ := ho.pos16 (by simp); have gq : g ≠ q := (by have := bk_lt S1.out.bq; omega); have e0 : wp.cell? ⟨g, 0, none⟩ = some (.string ⟨a.toArray⟩) := ho.cell16 (j := 0) rfl; have S2 := Lib.hid (S1.out.keep hb); obtain ⟨u0, u1, u2, u3, u4, u5, u6, u7, u8, u9⟩ := S2.out.seeq; have S3 := Lib.hid (S2.out.set 1 (.int .i64 0)); clear ho hb hg)
          | (go_at_call 33; with_reducible refine (N0.out _).mono ?_; rintro e wn ⟨rfl, rfl⟩))
        rw [rounds_succ]
        go_upto_region 29 with (first
          | (go_at_call 32; refine (HP.out _).mono ?_; rintro x9 wp ⟨v9, rfl, ho, hb⟩; obtain ⟨g, cc, rfl, hg⟩ := ho.pos16 (by simp); have gq : g ≠ q := (by have := bk_lt S1.out.bq; omega); have e0 : wp.cell? ⟨g, 0, none⟩ = some (.string ⟨a.toArray⟩) := ho.cell16 (j := 0) rfl; have S2 := Lib.hid (S1.out.keep hb); obtain ⟨u0, u1, u2, u3, u4, u5, u6, u7, u8, u9⟩ := S2.out.seeq; have S3 := Lib.hid (S2.out.set 1 (.int .i64 0)); clear ho hb hg)
          | (go_at_call 33; with_reducible refine (N0.out _).mono ?_; rintro e wn ⟨rfl, rfl⟩))
        have S9 := S3.out
        obtain ⟨U, hU⟩ : ∃ U, U = (wp.setCell ⟨q, 1, none⟩ (.int .i64 0)) := ⟨_, rfl⟩
        rw [← hU] at S9
        rw [← hU]
        clear hU
        skip
        have Z : Dc w U w.heap.size q #[.int .i64 3, .int .i64 0, .int .i64 0, .int .i64 0, .int .i64 7200] := S9
        replace S := Lib.hid Z
        clear Z
        obtain ⟨d0, d1, d2, d3, d4, h0, h1, h2, h3, h4⟩ := S.out.seep
        go_wp2_with fail
        obtain ⟨F, r0, r1, r2, r3, r4⟩ := S.out.done 0 0 0 0 0
        show bodyPost _ _ _ _ _ (put16r U w.heap.size 0 0 0 0 0)
        generalize put16r U w.heap.size 0 0 0 0 0 = WW at *
        refine bodyPost_ret (v := .tuple #[.agg #[.int .i64 0, .int .i64 0, .int .i64 0, .int .i64 0, .int .i64 0], .int .i64 2]) (by simp [results, Try.results16, go_sem, r0, r1, r2, r3, r4]) rfl ⟨rfl, F⟩
      · have tz : decide (k < s.size) = false := decide_eq_false (by omega)
        have z3 : decide (0 < D.size) = true := decide_eq_true z0
        go_upto_region 5 with fail
        rw [← hD]
        go_upto_region 6 with fail
        rw [← hW1, ← hq]
        clear hW1 hq hD HA
        obtain ⟨c0, c1, c2, c3, c4, f0, f1, f2, f3, f4⟩ := S.out.seeq
        have S1 := Lib.hid (S.out.set 0 (.int .i64 3))
        have SS := S1
        go_wp2_with (first
          | (go_at_call 32; refine (HP.out _).mono ?_; rintro x9 wp ⟨v9, rfl, ho, hb⟩; obtain ⟨g, cc, rfl, hg⟩ := ho.pos16 (by simp); have gq : g ≠ q := (by have := bk_lt S1.out.bq; omega); have e0 : wp.cell? ⟨g, 0, none⟩ = some (.string ⟨a.toArray⟩) := ho.cell16 (j := 0) rfl; have S2 := Lib.hid (S1.out.keep hb); obtain ⟨u0, u1, u2, u3, u4, u5, u6, u7, u8, u9⟩ := S2.out.seeq; have S3 := Lib.hid (S2.out.set 1 (.int .i64 0)); clear ho hb hg)
          | (go_at_call 33; with_reducible refine (N0.out _).mono ?_; rintro e wn ⟨rfl, rfl⟩))
        refine wp_loop_rounds 2 ?_
        rw [rounds_succ]
        go_wp2_with (first
          | (go_at_call 32; refine (HP.out _).mono ?_; rintro x9 wp ⟨v9, rfl, ho, hb⟩; obtain ⟨g, cc, rfl, hg⟩ := ho.pos16 (by simp); have gq : g ≠ q := (by have := bk_lt S1.out.bq; omega); have e0 : wp.cell? ⟨g, 0, none⟩ = some (.string ⟨a.toArray⟩) := ho.cell16 (j := 0) rfl; have S2 := Lib.hid (S1.out.keep hb); obtain ⟨u0, u1, u2, u3, u4, u5, u6, u7, u8, u9⟩ := S2.out.seeq; have S3 := Lib.hid (S2.out.set 1 (.int .i64 0)); clear ho hb hg)
          | (go_at_call 33; with_reducible refine (N0.out _).mono ?_; rintro e wn ⟨rfl, rfl⟩))
        rw [rounds_succ]
        go_upto_region 29 with (first
          | (go_at_call 32; refine (HP.out _).mono ?_; rintro x9 wp ⟨v9, rfl, ho, hb⟩; obtain ⟨g, cc, rfl, hg⟩ := ho.pos16 (by simp); have gq : g ≠ q := (by have := bk_lt S1.out.bq; omega); have e0 : wp.cell? ⟨g, 0, none⟩ = some (.string ⟨a.toArray⟩) := ho.cell16 (j := 0) rfl; have S2 := Lib.hid (S1.out.keep hb); obtain ⟨u0, u1, u2, u3, u4, u5, u6, u7, u8, u9⟩ := S2.out.seeq; have S3 := Lib.hid (S2.out.set 1 (.int .i64 0)); clear ho hb hg)
          | (go_at_call 33; with_reducible refine (N0.out _).mono ?_; rintro e wn ⟨rfl, rfl⟩))
        have S9 := S3.out
        obtain ⟨U, hU⟩ : ∃ U, U = (wp.setCell ⟨q, 1, none⟩ (.int .i64 0)) := ⟨_, rfl⟩
        rw [← hU] at S9
        rw [← hU]
        clear hU
        skip
        have Z : Dc w U w.heap.size q #[.int .i64 3, .int .i64 0, .int .i64 0, .int .i64 0, .int .i64 7200] := S9
        replace S := Lib.hid Z
        clear Z
        obtain ⟨d0, d1, d2, d3, d4, h0, h1, h2, h3, h4⟩ := S.out.seep
        go_wp2_with fail
        obtain ⟨F, r0, r1, r2, r3, r4⟩ := S.out.done 0 0 0 0 0
        show bodyPost _ _ _ _ _ (put16r U w.heap.size 0 0 0 0 0)
        generalize put16r U w.heap.size 0 0 0 0 0 = WW at *
        refine bodyPost_ret (v := .tuple #[.agg #[.int .i64 0, .int .i64 0, .int .i64 0, .int .i64 0, .int .i64 0], .int .i64 2]) (by simp [results, Try.results16, go_sem, r0, r1, r2, r3, r4]) rfl ⟨rfl, F⟩
set_option maxHeartbeats 8000000 in
theorem dp_Mp1 (s D : ByteArray) (w : World) (Q : Nat) (hQ : Q ≤ s.size) (hD : D = s.extract 0 Q) (hs : s.size ≤ 900)
    (HA : Hid (∀ k (h : k < s.size), k < Q → ((s[k].toNat : Int) != 47) = true)) (HZ : Hid (∀ h : Q < s.size, ((s[Q].toNat : Int) != 47) = false)) (a b c : List UInt8) (x : Int) 
    (z0 : 0 < D.size) (z1 : ((D[0].toNat : Int) == 74) = false) (z2 : ((D[0].toNat : Int) == 77) = true)
    (HP : Hid (∀ w, Calls Try.prog 32 #[.string (D.extract 1 D.size), .int .u8 46] w fun x w' => ∃ v, x = .returned v ∧ Os w' w.heap.size v [a, b, c] ∧ Below w.heap.size w w'))
    (N0 : Hid (∀ w, Calls Try.prog 33 #[.string ⟨a.toArray⟩, .int .i64 1, .int .i64 2] w fun e w' => e = .returned (.tuple #[.int .i64 x, .bool true]) ∧ w = w'))
    (N1 : Hid (∀ w, Calls Try.prog 33 #[.string ⟨b.toArray⟩, .int .i64 1, .int .i64 1] w fun e w' => e = .returned (.tuple #[.int .i64 0, .bool false]) ∧ w = w'))
    : Calls Try.prog 16 #[.string s] w fun xx w' => xx = .returned (.tuple #[.agg #[.int .i64 0, .int .i64 0, .int .i64 0, .int .i64 0, .int .i64 0], .int .i64 2]) ∧ Below w.heap.size w w' := by
  obtain ⟨W0, hW0⟩ : ∃ W0, W0 = w.alloc (.cells #[.int .i64 0, .int .i64 0, .int .i64 0, .int .i64 0, .int .i64 0] 31) := ⟨_, rfl⟩
  have S0 := Dc.new w
  rw [← hW0] at S0
  obtain ⟨q, hq⟩ : ∃ q, q = W0.heap.size := ⟨_, rfl⟩
  obtain ⟨W1, hW1⟩ : ∃ W1, W1 = W0.alloc (.cells #[.int .i64 2, .int .i64 0, .int .i64 0, .int .i64 0, .int .i64 7200] 31) := ⟨_, rfl⟩
  rw [← hW1, ← hq] at S0
  have S := Lib.hid S0
  clear S0
  go_enter Try.func16, Try.ntmps16
  go_upto_region 1 with fail
  rw [← hW0]; clear hW0
  go_upto_region 2 with fail
  go_loop [4] (fun v => ∃ k : Nat, k ≤ Q ∧ v = .int .i64 k) (fun v => Q - (intOf v).toNat)
  case atStart => exact ⟨0, Nat.zero_le _, rfl⟩
  case round =>
    obtain ⟨k, hk, rfl⟩ := hrel
    by_cases hkQ : k < Q
    · have hks : k < s.size := by omega
      have hks2 : decide (k < s.size) = true := decide_eq_true hks
      have t47 := HA.out k hks hkQ
      go_wp2_with fail
      go_round
      case rel => exact ⟨k + 1, by omega, by go_num⟩
      case measure => simp [intOf]; omega
    · obtain rfl : k = Q := by omega
      clear hkQ hk
      rcases Nat.lt_or_ge k s.size with hz | hz
      · have tz : decide (k < s.size) = true := decide_eq_true hz
        have t47 := HZ.out hz
        have z3 : decide (0 < D.size) = true := decide_eq_true z0
        go_upto_region 5 with fail
        rw [← hD]
        go_upto_region 6 with fail
        rw [← hW1, ← hq]
        clear hW1 hq hD HA
        obtain ⟨c0, c1, c2, c3, c4, f0, f1, f2, f3, f4⟩ := S.out.seeq
        have S1 := Lib.hid (S.out.set 0 (.int .i64 3))
        have SS := S1
        go_wp2_with (first
          | (go_at_call 32; refine (HP.out _).mono ?_; rintro x9 wp ⟨v9, rfl, ho, hb⟩; obtain ⟨g, cc, rfl, hg⟩ := ho.pos16 (by simp); have gq : g ≠ q := (by have := bk_lt S1.out.bq; omega); have e0 : wp.cell? ⟨g, 0, none⟩ = some (.string ⟨a.toArray⟩) := ho.cell16 (j := 0) rfl; have e1 : wp.cell? ⟨g, 1, none⟩ = some (.string ⟨b.toArray⟩) := ho.cell16 (j := 1) rfl; have S2 := Lib.hid (S1.out.keep hb); obtain ⟨u0, u1, u2, u3, u4, u5, u6, u7, u8, u9⟩ := S2.out.seeq; have S3 := Lib.hid (S2.out.set 1 (.int .i64 x)); obtain ⟨v0, v1, v2, v3, v4, v5, v6, v7, v8, v9⟩ := S3.out.seeq; have e1' : (wp.setCell ⟨q, 1, none⟩ (.int .i64 x)).cell? ⟨g, 1, none⟩ = some (.string ⟨b.toArray⟩) := cell_off16 e1 gq _ _; have S4 := Lib.hid (S3.out.set 2 (.int .i64 0)); clear ho hb hg)
          | (go_at_call 33; with_reducible refine (N0.out _).mono ?_; rintro e wn ⟨rfl, rfl⟩)
          | (go_at_call 33; with_reducible refine (N1.out _).mono ?_; rintro e wn ⟨rfl, rfl⟩))
        refine wp_loop_rounds 3 ?_
        rw [rounds_succ]
        go_wp2_with (first
          | (go_at_call 32; refine (HP.out _).mono ?_; rintro x9 wp ⟨v9, rfl, ho, hb⟩; obtain ⟨g, cc, rfl, hg⟩ := ho.pos16 (by simp); have gq : g ≠ q := (by have := bk_lt S1.out.bq; omega); have e0 : wp.cell? ⟨g, 0, none⟩ = some (.string ⟨a.toArray⟩) := ho.cell16 (j := 0) rfl; have e1 : wp.cell? ⟨g, 1, none⟩ = some (.string ⟨b.toArray⟩) := ho.cell16 (j := 1) rfl; have S2 := Lib.hid (S1.out.keep hb); obtain ⟨u0, u1, u2, u3, u4, u5, u6, u7, u8, u9⟩ := S2.out.seeq; have S3 := Lib.hid (S2.out.set 1 (.int .i64 x)); obtain ⟨v0, v1, v2, v3, v4, v5, v6, v7, v8, v9⟩ := S3.out.seeq; have e1' : (wp.setCell ⟨q, 1, none⟩ (.int .i64 x)).cell? ⟨g, 1, none⟩ = some (.string ⟨b.toArray⟩) := cell_off16 e1 gq _ _; have S4 := Lib.hid (S3.out.set 2 (.int .i64 0)); clear ho hb hg)
          | (go_at_call 33; with_reducible refine (N0.out _).mono ?_; rintro e wn ⟨rfl, rfl⟩)
          | (go_at_call 33; with_reducible refine (N1.out _).mono ?_; rintro e wn ⟨rfl, rfl⟩))
        rw [rounds_succ]
        go_wp2_with (first
          | (go_at_call 32; refine (HP.out _).mono ?_; rintro x9 wp ⟨v9, rfl, ho, hb⟩; obtain ⟨g, cc, rfl, hg⟩ := ho.pos16 (by simp); have gq : g ≠ q := (by have := bk_lt S1.out.bq; omega); have e0 : wp.cell? ⟨g, 0, none⟩ = some (.string ⟨a.toArray⟩) := ho.cell16 (j := 0) rfl; have e1 : wp.cell? ⟨g, 1, none⟩ = some (.string ⟨b.toArray⟩) := ho.cell16 (j := 1) rfl; have S2 := Lib.hid (S1.out.keep hb); obtain ⟨u0, u1, u2, u3, u4, u5, u6, u7, u8, u9⟩ := S2.out.seeq; have S3 := Lib.hid (S2.out.set 1 (.int .i64 x)); obtain ⟨v0, v1, v2, v3, v4, v5, v6, v7, v8, v9⟩ := S3.out.seeq; have e1' : (wp.setCell ⟨q, 1, none⟩ (.int .i64 x)).cell? ⟨g, 1, none⟩ = some (.string ⟨b.toArray⟩) := cell_off16 e1 gq _ _; have S4 := Lib.hid (S3.out.set 2 (.int .i64 0)); clear ho hb hg)
          | (go_at_call 33; with_reducible refine (N0.out _).mono ?_; rintro e wn ⟨rfl, rfl⟩)
          | (go_at_call 33; with_reducible refine (N1.out _).mono ?_; rintro e wn ⟨rfl, rfl⟩))
        rw [rounds_succ]
        go_upto_region 29 with (first
          | (go_at_call 32; refine (HP.out _).mono ?_; rintro x9 wp ⟨v9, rfl, ho, hb⟩; obtain ⟨g, cc, rfl, hg⟩ := ho.pos16 (by simp); have gq : g ≠ q := (by have := bk_lt S1.out.bq; omega); have e0 : wp.cell? ⟨g, 0, none⟩ = some (.string ⟨a.toArray⟩) := ho.cell16 (j := 0) rfl; have e1 : wp.cell? ⟨g, 1, none⟩ = some (.string ⟨b.toArray⟩) := ho.cell16 (j := 1) rfl; have S2 := Lib.hid (S1.out.keep hb); obtain ⟨u0, u1, u2, u3, u4, u5, u6, u7, u8, u9⟩ := S2.out.seeq; have S3 := Lib.hid (S2.out.set 1 (.int .i64 x)); obtain ⟨v0, v1, v2, v3, v4, v5, v6, v7, v8, v9⟩ := S3.out.seeq; have e1' : (wp.setCell ⟨q, 1, none⟩ (.int .i64 x)).cell? ⟨g, 1, none⟩ = some (.string ⟨b.toArray⟩) := cell_off16 e1 gq _ _; have S4 := Lib.hid (S3.out.set 2 (.int .i64 0)); clear ho hb hg)
          | (go_at_call 33; with_reducible refine (N0.out _).mono ?_; rintro e wn ⟨rfl, rfl⟩)
          | (go_at_call 33; with_reducible refine (N1.out _).mono ?_; rintro e wn ⟨rfl, rfl⟩))
        have S9 := S4.out
        obtain ⟨U, hU⟩ : ∃ U, U = ((wp.setCell ⟨q, 1, none⟩ (.int .i64 x)).setCell ⟨q, 2, none⟩ (.int .i64 0)) := ⟨_, rfl⟩
        rw [← hU] at S9
        rw [← hU]
        clear hU
        skip
        have Z : Dc w U w.heap.size q #[.int .i64 3, .int .i64 x, .int .i64 0, .int .i64 0, .int .i64 7200] := S9
        replace S := Lib.hid Z
        clear Z
        obtain ⟨d0, d1, d2, d3, d4, h0, h1, h2, h3, h4⟩ := S.out.seep
        go_wp2_with fail
        obtain ⟨F, r0, r1, r2, r3, r4⟩ := S.out.done 0 0 0 0 0
        show bodyPost _ _ _ _ _ (put16r U w.heap.size 0 0 0 0 0)
        generalize put16r U w.heap.size 0 0 0 0 0 = WW at *
        refine bodyPost_ret (v := .tuple #[.agg #[.int .i64 0, .int .i64 0, .int .i64 0, .int .i64 0, .int .i64 0], .int .i64 2]) (by simp [results, Try.results16, go_sem, r0, r1, r2, r3, r4]) rfl ⟨rfl, F⟩
      · have tz : decide (k < s.size) = false := decide_eq_false (by omega)
        have z3 : decide (0 < D.size) = true := decide_eq_true z0
        go_upto_region 5 with fail
        rw [← hD]
        go_upto_region 6 with fail
        rw [← hW1, ← hq]
        clear hW1 hq hD HA
        obtain ⟨c0, c1, c2, c3, c4, f0, f1, f2, f3, f4⟩ := S.out.seeq
        have S1 := Lib.hid (S.out.set 0 (.int .i64 3))
        have SS := S1
        go_wp2_with (first
          | (go_at_call 32; refine (HP.out _).mono ?_; rintro x9 wp ⟨v9, rfl, ho, hb⟩; obtain ⟨g, cc, rfl, hg⟩ := ho.pos16 (by simp); have gq : g ≠ q := (by have := bk_lt S1.out.bq; omega); have e0 : wp.cell? ⟨g, 0, none⟩ = some (.string ⟨a.toArray⟩) := ho.cell16 (j := 0) rfl; have e1 : wp.cell? ⟨g, 1, none⟩ = some (.string ⟨b.toArray⟩) := ho.cell16 (j := 1) rfl; have S2 := Lib.hid (S1.out.keep hb); obtain ⟨u0, u1, u2, u3, u4, u5, u6, u7, u8, u9⟩ := S2.out.seeq; have S3 := Lib.hid (S2.out.set 1 (.int .i64 x)); obtain ⟨v0, v1, v2, v3, v4, v5, v6, v7, v8, v9⟩ := S3.out.seeq; have e1' : (wp.setCell ⟨q, 1, none⟩ (.int .i64 x)).cell? ⟨g, 1, none⟩ = some (.string ⟨b.toArray⟩) := cell_off16 e1 gq _ _; have S4 := Lib.hid (S3.out.set 2 (.int .i64 0)); clear ho hb hg)
          | (go_at_call 33; with_reducible refine (N0.out _).mono ?_; rintro e wn ⟨rfl, rfl⟩)
          | (go_at_call 33; with_reducible refine (N1.out _).mono ?_; rintro e wn ⟨rfl, rfl⟩))
        refine wp_loop_rounds 3 ?_
        rw [rounds_succ]
        go_wp2_with (first
          | (go_at_call 32; refine (HP.out _).mono ?_; rintro x9 wp ⟨v9, rfl, ho, hb⟩; obtain ⟨g, cc, rfl, hg⟩ := ho.pos16 (by simp); have gq : g ≠ q := (by have := bk_lt S1.out.bq; omega); have e0 : wp.cell? ⟨g, 0, none⟩ = some (.string ⟨a.toArray⟩) := ho.cell16 (j := 0) rfl; have e1 : wp.cell? ⟨g, 1, none⟩ = some (.string ⟨b.toArray⟩) := ho.cell16 (j := 1) rfl; have S2 := Lib.hid (S1.out.keep hb); obtain ⟨u0, u1, u2, u3, u4, u5, u6, u7, u8, u9⟩ := S2.out.seeq; have S3 := Lib.hid (S2.out.set 1 (.int .i64 x)); obtain ⟨v0, v1, v2, v3, v4, v5, v6, v7, v8, v9⟩ := S3.out.seeq; have e1' : (wp.setCell ⟨q, 1, none⟩ (.int .i64 x)).cell? ⟨g, 1, none⟩ = some (.string ⟨b.toArray⟩) := cell_off16 e1 gq _ _; have S4 := Lib.hid (S3.out.set 2 (.int .i64 0)); clear ho hb hg)
          | (go_at_call 33; with_reducible refine (N0.out _).mono ?_; rintro e wn ⟨rfl, rfl⟩)
          | (go_at_call 33; with_reducible refine (N1.out _).mono ?_; rintro e wn ⟨rfl, rfl⟩))
        rw [rounds_succ]
        go_wp2_with (first
          | (go_at_call 32; refine (HP.out _).mono ?_; rintro x9 wp ⟨v9, rfl, ho, hb⟩; obtain ⟨g, cc, rfl, hg⟩ := ho.pos16 (by simp); have gq : g ≠ q := (by have := bk_lt S1.out.bq; omega); have e0 : wp.cell? ⟨g, 0, none⟩ = some (.string ⟨a.toArray⟩) := ho.cell16 (j := 0) rfl; have e1 : wp.cell? ⟨g, 1, none⟩ = some (.string ⟨b.toArray⟩) := ho.cell16 (j := 1) rfl; have S2 := Lib.hid (S1.out.keep hb); obtain ⟨u0, u1, u2, u3, u4, u5, u6, u7, u8, u9⟩ := S2.out.seeq; have S3 := Lib.hid (S2.out.set 1 (.int .i64 x)); obtain ⟨v0, v1, v2, v3, v4, v5, v6, v7, v8, v9⟩ := S3.out.seeq; have e1' : (wp.setCell ⟨q, 1, none⟩ (.int .i64 x)).cell? ⟨g, 1, none⟩ = some (.string ⟨b.toArray⟩) := cell_off16 e1 gq _ _; have S4 := Lib.hid (S3.out.set 2 (.int .i64 0)); clear ho hb hg)
          | (go_at_call 33; with_reducible refine (N0.out _).mono ?_; rintro e wn ⟨rfl, rfl⟩)
          | (go_at_call 33; with_reducible refine (N1.out _).mono ?_; rintro e wn ⟨rfl, rfl⟩))
        rw [rounds_succ]
        go_upto_region 29 with (first
          | (go_at_call 32; refine (HP.out _).mono ?_; rintro x9 wp ⟨v9, rfl, ho, hb⟩; obtain ⟨g, cc, rfl, hg⟩ := ho.pos16 (by simp); have gq : g ≠ q := (by have := bk_lt S1.out.bq; omega); have e0 : wp.cell? ⟨g, 0, none⟩ = some (.string ⟨a.toArray⟩) := ho.cell16 (j := 0) rfl; have e1 : wp.cell? ⟨g, 1, none⟩ = some (.string ⟨b.toArray⟩) := ho.cell16 (j := 1) rfl; have S2 := Lib.hid (S1.out.keep hb); obtain ⟨u0, u1, u2, u3, u4, u5, u6, u7, u8, u9⟩ := S2.out.seeq; have S3 := Lib.hid (S2.out.set 1 (.int .i64 x)); obtain ⟨v0, v1, v2, v3, v4, v5, v6, v7, v8, v9⟩ := S3.out.seeq; have e1' : (wp.setCell ⟨q, 1, none⟩ (.int .i64 x)).cell? ⟨g, 1, none⟩ = some (.string ⟨b.toArray⟩) := cell_off16 e1 gq _ _; have S4 := Lib.hid (S3.out.set 2 (.int .i64 0)); clear ho hb hg)
          | (go_at_call 33; with_reducible refine (N0.out _).mono ?_; rintro e wn ⟨rfl, rfl⟩)
          | (go_at_call 33; with_reducible refine (N1.out _).mono ?_; rintro e wn ⟨rfl, rfl⟩))
        have S9 := S4.out
        obtain ⟨U, hU⟩ : ∃ U, U = ((wp.setCell ⟨q, 1, none⟩ (.int .i64 x)).setCell ⟨q, 2, none⟩ (.int .i64 0)) := ⟨_, rfl⟩
        rw [← hU] at S9
        rw [← hU]
        clear hU
        skip
        have Z : Dc w U w.heap.size q #[.int .i64 3, .int .i64 x, .int .i64 0, .int .i64 0, .int .i64 7200] := S9
        replace S := Lib.hid Z
        clear Z
        obtain ⟨d0, d1, d2, d3, d4, h0, h1, h2, h3, h4⟩ := S.out.seep
        go_wp2_with fail
        obtain ⟨F, r0, r1, r2, r3, r4⟩ := S.out.done 0 0 0 0 0
        show bodyPost _ _ _ _ _ (put16r U w.heap.size 0 0 0 0 0)
        generalize put16r U w.heap.size 0 0 0 0 0 = WW at *
        refine bodyPost_ret (v := .tuple #[.agg #[.int .i64 0, .int .i64 0, .int .i64 0, .int .i64 0, .int .i64 0], .int .i64 2]) (by simp [results, Try.results16, go_sem, r0, r1, r2, r3, r4]) rfl ⟨rfl, F⟩
set_option maxHeartbeats 8000000 in
theorem dp_Mp2 (s D : ByteArray) (w : World) (Q : Nat) (hQ : Q ≤ s.size) (hD : D = s.extract 0 Q) (hs : s.size ≤ 900)
    (HA : Hid (∀ k (h : k < s.size), k < Q → ((s[k].toNat : Int) != 47) = true)) (HZ : Hid (∀ h : Q < s.size, ((s[Q].toNat : Int) != 47) = false)) (a b c : List UInt8) (x y : Int) 
    (z0 : 0 < D.size) (z1 : ((D[0].toNat : Int) == 74) = false) (z2 : ((D[0].toNat : Int) == 77) = true)
    (HP : Hid (∀ w, Calls Try.prog 32 #[.string (D.extract 1 D.size), .int .u8 46] w fun x w' => ∃ v, x = .returned v ∧ Os w' w.heap.size v [a, b, c] ∧ Below w.heap.size w w'))
    (N0 : Hid (∀ w, Calls Try.prog 33 #[.string ⟨a.toArray⟩, .int .i64 1, .int .i64 2] w fun e w' => e = .returned (.tuple #[.int .i64 x, .bool true]) ∧ w = w'))
    (N1 : Hid (∀ w, Calls Try.prog 33 #[.string ⟨b.toArray⟩, .int .i64 1, .int .i64 1] w fun e w' => e = .returned (.tuple #[.int .i64 y, .bool true]) ∧ w = w'))
    (N2 : Hid (∀ w, Calls Try.prog 33 #[.string ⟨c.toArray⟩, .int .i64 1, .int .i64 1] w fun e w' => e = .returned (.tuple #[.int .i64 0, .bool false]) ∧ w = w'))
    : Calls Try.prog 16 #[.string s] w fun xx w' => xx = .returned (.tuple #[.agg #[.int .i64 0, .int .i64 0, .int .i64 0, .int .i64 0, .int .i64 0], .int .i64 2]) ∧ Below w.heap.size w w' := by
  obtain ⟨W0, hW0⟩ : ∃ W0, W0 = w.alloc (.cells #[.int .i64 0, .int .i64 0, .int .i64 0, .int .i64 0, .int .i64 0] 31) := ⟨_, rfl⟩
  have S0 := Dc.new w
  rw [← hW0] at S0
  obtain ⟨q, hq⟩ : ∃ q, q = W0.heap.size := ⟨_, rfl⟩
  obtain ⟨W1, hW1⟩ : ∃ W1, W1 = W0.alloc (.cells #[.int .i64 2, .int .i64 0, .int .i64 0, .int .i64 0, .int .i64 7200] 31) := ⟨_, rfl⟩
  rw [← hW1, ← hq] at S0
  have S := Lib.hid S0
  clear S0
  go_enter Try.func16, Try.ntmps16
  go_upto_region 1 with fail
  rw [← hW0]; clear hW0
  go_upto_region 2 with fail
  go_loop [4] (fun v => ∃ k : Nat, k ≤ Q ∧ v = .int .i64 k) (fun v => Q - (intOf v).toNat)
  case atStart => exact ⟨0, Nat.zero_le _, rfl⟩
  case round =>
    obtain ⟨k, hk, rfl⟩ := hrel
    by_cases hkQ : k < Q
    · have hks : k < s.size := by omega
      have hks2 : decide (k < s.size) = true := decide_eq_true hks
      have t47 := HA.out k hks hkQ
      go_wp2_with fail
      go_round
      case rel => exact ⟨k + 1, by omega, by go_num⟩
      case measure => simp [intOf]; omega
    · obtain rfl : k = Q := by omega
      clear hkQ hk
      rcases Nat.lt_or_ge k s.size with hz | hz
      · have tz : decide (k < s.size) = true := decide_eq_true hz
        have t47 := HZ.out hz
        have z3 : decide (0 < D.size) = true := decide_eq_true z0
        go_upto_region 5 with fail
        rw [← hD]
        go_upto_region 6 with fail
        rw [← hW1, ← hq]
        clear hW1 hq hD HA
        obtain ⟨c0, c1, c2, c3, c4, f0, f1, f2, f3, f4⟩ := S.out.seeq
        have S1 := Lib.hid (S.out.set 0 (.int .i64 3))
        have SS := S1
        go_wp2_with (first
          | (go_at_call 32; refine (HP.out _).mono ?_; rintro x9 wp ⟨v9, rfl, ho, hb⟩; obtain ⟨g, cc, rfl, hg⟩ := ho.pos16 (by simp); have gq : g ≠ q := (by have := bk_lt S1.out.bq; omega); have e0 : wp.cell? ⟨g, 0, none⟩ = some (.string ⟨a.toArray⟩) := ho.cell16 (j := 0) rfl; have e1 : wp.cell? ⟨g, 1, none⟩ = some (.string ⟨b.toArray⟩) := ho.cell16 (j := 1) rfl; have e2 : wp.cell? ⟨g, 2, none⟩ = some (.string ⟨c.toArray⟩) := ho.cell16 (j := 2) rfl; have S2 := Lib.hid (S1.out.keep hb); obtain ⟨u0, u1, u2, u3, u4, u5, u6, u7, u8, u9⟩ := S2.out.seeq; have S3 := Lib.hid (S2.out.set 1 (.int .i64 x)); obtain ⟨v0, v1, v2, v3, v4, v5, v6, v7, v8, v9⟩ := S3.out.seeq; have e1' : (wp.setCell ⟨q, 1, none⟩ (.int .i64 x)).cell? ⟨g, 1, none⟩ = some (.string ⟨b.toArray⟩) := cell_off16 e1 gq _ _; have S4 := Lib.hid (S3.out.set 2 (.int .i64 y)); obtain ⟨x0, x1, x2, x3, x4, x5, x6, x7, x8, x9⟩ := S4.out.seeq; have e2' : ((wp.setCell ⟨q, 1, none⟩ (.int .i64 x)).setCell ⟨q, 2, none⟩ (.int .i64 y)).cell? ⟨g, 2, none⟩ = some (.string ⟨c.toArray⟩) := cell_off16 (cell_off16 e2 gq _ _) gq _ _; have S5 := Lib.hid (S4.out.set 3 (.int .i64 0)); clear ho hb hg)
          | (go_at_call 33; with_reducible refine (N0.out _).mono ?_; rintro e wn ⟨rfl, rfl⟩)
          | (go_at_call 33; with_reducible refine (N1.out _).mono ?_; rintro e wn ⟨rfl, rfl⟩)
          | (go_at_call 33; with_reducible refine (N2.out _).mono ?_; rintro e wn ⟨rfl, rfl⟩))
        refine wp_loop_rounds 4 ?_
        rw [rounds_succ]
        go_wp2_with (first
          | (go_at_call 32; refine (HP.out _).mono ?_; rintro x9 wp ⟨v9, rfl, ho, hb⟩; obtain ⟨g, cc, rfl, hg⟩ := ho.pos16 (by simp); have gq : g ≠ q := (by have := bk_lt S1.out.bq; omega); have e0 : wp.cell? ⟨g, 0, none⟩ = some (.string ⟨a.toArray⟩) := ho.cell16 (j := 0) rfl; have e1 : wp.cell? ⟨g, 1, none⟩ = some (.string ⟨b.toArray⟩) := ho.cell16 (j := 1) rfl; have e2 : wp.cell? ⟨g, 2, none⟩ = some (.string ⟨c.toArray⟩) := ho.cell16 (j := 2) rfl; have S2 := Lib.hid (S1.out.keep hb); obtain ⟨u0, u1, u2, u3, u4, u5, u6, u7, u8, u9⟩ := S2.out.seeq; have S3 := Lib.hid (S2.out.set 1 (.int .i64 x)); obtain ⟨v0, v1, v2, v3, v4, v5, v6, v7, v8, v9⟩ := S3.out.seeq; have e1' : (wp.setCell ⟨q, 1, none⟩ (.int .i64 x)).cell? ⟨g, 1, none⟩ = some (.string ⟨b.toArray⟩) := cell_off16 e1 gq _ _; have S4 := Lib.hid (S3.out.set 2 (.int .i64 y)); obtain ⟨x0, x1, x2, x3, x4, x5, x6, x7, x8, x9⟩ := S4.out.seeq; have e2' : ((wp.setCell ⟨q, 1, none⟩ (.int .i64 x)).setCell ⟨q, 2, none⟩ (.int .i64 y)).cell? ⟨g, 2, none⟩ = some (.string ⟨c.toArray⟩) := cell_off16 (cell_off16 e2 gq _ _) gq _ _; have S5 := Lib.hid (S4.out.set 3 (.int .i64 0)); clear ho hb hg)
          | (go_at_call 33; with_reducible refine (N0.out _).mono ?_; rintro e wn ⟨rfl, rfl⟩)
          | (go_at_call 33; with_reducible refine (N1.out _).mono ?_; rintro e wn ⟨rfl, rfl⟩)
          | (go_at_call 33; with_reducible refine (N2.out _).mono ?_; rintro e wn ⟨rfl, rfl⟩))
        rw [rounds_succ]
        go_wp2_with (first
          | (go_at_call 32; refine (HP.out _).mono ?_; rintro x9 wp ⟨v9, rfl, ho, hb⟩; obtain ⟨g, cc, rfl, hg⟩ := ho.pos16 (by simp); have gq : g ≠ q := (by have := bk_lt S1.out.bq; omega); have e0 : wp.cell? ⟨g, 0, none⟩ = some (.string ⟨a.toArray⟩) := ho.cell16 (j := 0) rfl; have e1 : wp.cell? ⟨g, 1, none⟩ = some (.string ⟨b.toArray⟩) := ho.cell16 (j := 1) rfl; have e2 : wp.cell? ⟨g, 2, none⟩ = some (.string ⟨c.toArray⟩) := ho.cell16 (j := 2) rfl; have S2 := Lib.hid (S1.out.keep hb); obtain ⟨u0, u1, u2, u3, u4, u5, u6, u7, u8, u9⟩ := S2.out.seeq; have S3 := Lib.hid (S2.out.set 1 (.int .i64 x)); obtain ⟨v0, v1, v2, v3, v4, v5, v6, v7, v8, v9⟩ := S3.out.seeq; have e1' : (wp.setCell ⟨q, 1, none⟩ (.int .i64 x)).cell? ⟨g, 1, none⟩ = some (.string ⟨b.toArray⟩) := cell_off16 e1 gq _ _; have S4 := Lib.hid (S3.out.set 2 (.int .i64 y)); obtain ⟨x0, x1, x2, x3, x4, x5, x6, x7, x8, x9⟩ := S4.out.seeq; have e2' : ((wp.setCell ⟨q, 1, none⟩ (.int .i64 x)).setCell ⟨q, 2, none⟩ (.int .i64 y)).cell? ⟨g, 2, none⟩ = some (.string ⟨c.toArray⟩) := cell_off16 (cell_off16 e2 gq _ _) gq _ _; have S5 := Lib.hid (S4.out.set 3 (.int .i64 0)); clear ho hb hg)
          | (go_at_call 33; with_reducible refine (N0.out _).mono ?_; rintro e wn ⟨rfl, rfl⟩)
          | (go_at_call 33; with_reducible refine (N1.out _).mono ?_; rintro e wn ⟨rfl, rfl⟩)
          | (go_at_call 33; with_reducible refine (N2.out _).mono ?_; rintro e wn ⟨rfl, rfl⟩))
        rw [rounds_succ]
        go_wp2_with (first
          | (go_at_call 32; refine (HP.out _).mono ?_; rintro x9 wp ⟨v9, rfl, ho, hb⟩; obtain ⟨g, cc, rfl, hg⟩ := ho.pos16 (by simp); have gq : g ≠ q := (by have := bk_lt S1.out.bq; omega); have e0 : wp.cell? ⟨g, 0, none⟩ = some (.string ⟨a.toArray⟩) := ho.cell16 (j := 0) rfl; have e1 : wp.cell? ⟨g, 1, none⟩ = some (.string ⟨b.toArray⟩) := ho.cell16 (j := 1) rfl; have e2 : wp.cell? ⟨g, 2, none⟩ = some (.string ⟨c.toArray⟩) := ho.cell16 (j := 2) rfl; have S2 := Lib.hid (S1.out.keep hb); obtain ⟨u0, u1, u2, u3, u4, u5, u6, u7, u8, u9⟩ := S2.out.seeq; have S3 := Lib.hid (S2.out.set 1 (.int .i64 x)); obtain ⟨v0, v1, v2, v3, v4, v5, v6, v7, v8, v9⟩ := S3.out.seeq; have e1' : (wp.setCell ⟨q, 1, none⟩ (.int .i64 x)).cell? ⟨g, 1, none⟩ = some (.string ⟨b.toArray⟩) := cell_off16 e1 gq _ _; have S4 := Lib.hid (S3.out.set 2 (.int .i64 y)); obtain ⟨x0, x1, x2, x3, x4, x5, x6, x7, x8, x9⟩ := S4.out.seeq; have e2' : ((wp.setCell ⟨q, 1, none⟩ (.int .i64 x)).setCell ⟨q, 2, none⟩ (.int .i64 y)).cell? ⟨g, 2, none⟩ = some (.string ⟨c.toArray⟩) := cell_off16 (cell_off16 e2 gq _ _) gq _ _; have S5 := Lib.hid (S4.out.set 3 (.int .i64 0)); clear ho hb hg)
          | (go_at_call 33; with_reducible refine (N0.out _).mono ?_; rintro e wn ⟨rfl, rfl⟩)
          | (go_at_call 33; with_reducible refine (N1.out _).mono ?_; rintro e wn ⟨rfl, rfl⟩)
          | (go_at_call 33; with_reducible refine (N2.out _).mono ?_; rintro e wn ⟨rfl, rfl⟩))
        rw [rounds_succ]
        go_upto_region 29 with (first
          | (go_at_call 32; refine (HP.out _).mono ?_; rintro x9 wp ⟨v9, rfl, ho, hb⟩; obtain ⟨g, cc, rfl, hg⟩ := ho.pos16 (by simp); have gq : g ≠ q := (by have := bk_lt S1.out.bq; omega); have e0 : wp.cell? ⟨g, 0, none⟩ = some (.string ⟨a.toArray⟩) := ho.cell16 (j := 0) rfl; have e1 : wp.cell? ⟨g, 1, none⟩ = some (.string ⟨b.toArray⟩) := ho.cell16 (j := 1) rfl; have e2 : wp.cell? ⟨g, 2, none⟩ = some (.string ⟨c.toArray⟩) := ho.cell16 (j := 2) rfl; have S2 := Lib.hid (S1.out.keep hb); obtain ⟨u0, u1, u2, u3, u4, u5, u6, u7, u8, u9⟩ := S2.out.seeq; have S3 := Lib.hid (S2.out.set 1 (.int .i64 x)); obtain ⟨v0, v1, v2, v3, v4, v5, v6, v7, v8, v9⟩ := S3.out.seeq; have e1' : (wp.setCell ⟨q, 1, none⟩ (.int .i64 x)).cell? ⟨g, 1, none⟩ = some (.string ⟨b.toArray⟩) := cell_off16 e1 gq _ _; have S4 := Lib.hid (S3.out.set 2 (.int .i64 y)); obtain ⟨x0, x1, x2, x3, x4, x5, x6, x7, x8, x9⟩ := S4.out.seeq; have e2' : ((wp.setCell ⟨q, 1, none⟩ (.int .i64 x)).setCell ⟨q, 2, none⟩ (.int .i64 y)).cell? ⟨g, 2, none⟩ = some (.string ⟨c.toArray⟩) := cell_off16 (cell_off16 e2 gq _ _) gq _ _; have S5 := Lib.hid (S4.out.set 3 (.int .i64 0)); clear ho hb hg)
          | (go_at_call 33; with_reducible refine (N0.out _).mono ?_; rintro e wn ⟨rfl, rfl⟩)
          | (go_at_call 33; with_reducible refine (N1.out _).mono ?_; rintro e wn ⟨rfl, rfl⟩)
          | (go_at_call 33; with_reducible refine (N2.out _).mono ?_; rintro e wn ⟨rfl, rfl⟩))
        have S9 := S5.out
        obtain ⟨U, hU⟩ : ∃ U, U = (((wp.setCell ⟨q, 1, none⟩ (.int .i64 x)).setCell ⟨q, 2, none⟩ (.int .i64 y)).setCell ⟨q, 3, none⟩ (.int .i64 0)) := ⟨_, rfl⟩
        rw [← hU] at S9
        rw [← hU]
        clear hU
        skip
        have Z : Dc w U w.heap.size q #[.int .i64 3, .int .i64 x, .int .i64 y, .int .i64 0, .int .i64 7200] := S9
        replace S := Lib.hid Z
        clear Z
        obtain ⟨d0, d1, d2, d3, d4, h0, h1, h2, h3, h4⟩ := S.out.seep
        go_wp2_with fail
        obtain ⟨F, r0, r1, r2, r3, r4⟩ := S.out.done 0 0 0 0 0
        show bodyPost _ _ _ _ _ (put16r U w.heap.size 0 0 0 0 0)
        generalize put16r U w.heap.size 0 0 0 0 0 = WW at *
        refine bodyPost_ret (v := .tuple #[.agg #[.int .i64 0, .int .i64 0, .int .i64 0, .int .i64 0, .int .i64 0], .int .i64 2]) (by simp [results, Try.results16, go_sem, r0, r1, r2, r3, r4]) rfl ⟨rfl, F⟩
      · have tz : decide (k < s.size) = false := decide_eq_false (by omega)
        have z3 : decide (0 < D.size) = true := decide_eq_true z0
        go_upto_region 5 with fail
        rw [← hD]
        go_upto_region 6 with fail
        rw [← hW1, ← hq]
        clear hW1 hq hD HA
        obtain ⟨c0, c1, c2, c3, c4, f0, f1, f2, f3, f4⟩ := S.out.seeq
        have S1 := Lib.hid (S.out.set 0 (.int .i64 3))
        have SS := S1
        go_wp2_with (first
          | (go_at_call 32; refine (HP.out _).mono ?_; rintro x9 wp ⟨v9, rfl, ho, hb⟩; obtain ⟨g, cc, rfl, hg⟩ := ho.pos16 (by simp); have gq : g ≠ q := (by have := bk_lt S1.out.bq; omega); have e0 : wp.cell? ⟨g, 0, none⟩ = some (.string ⟨a.toArray⟩) := ho.cell16 (j := 0) rfl; have e1 : wp.cell? ⟨g, 1, none⟩ = some (.string ⟨b.toArray⟩) := ho.cell16 (j := 1) rfl; have e2 : wp.cell? ⟨g, 2, none⟩ = some (.string ⟨c.toArray⟩) := ho.cell16 (j := 2) rfl; have S2 := Lib.hid (S1.out.keep hb); obtain ⟨u0, u1, u2, u3, u4, u5, u6, u7, u8, u9⟩ := S2.out.seeq; have S3 := Lib.hid (S2.out.set 1 (.int .i64 x)); obtain ⟨v0, v1, v2, v3, v4, v5, v6, v7, v8, v9⟩ := S3.out.seeq; have e1' : (wp.setCell ⟨q, 1, none⟩ (.int .i64 x)).cell? ⟨g, 1, none⟩ = some (.string ⟨b.toArray⟩) := cell_off16 e1 gq _ _; have S4 := Lib.hid (S3.out.set 2 (.int .i64 y)); obtain ⟨x0, x1, x2, x3, x4, x5, x6, x7, x8, x9⟩ := S4.out.seeq; have e2' : ((wp.setCell ⟨q, 1, none⟩ (.int .i64 x)).setCell ⟨q, 2, none⟩ (.int .i64 y)).cell? ⟨g, 2, none⟩ = some (.string ⟨c.toArray⟩) := cell_off16 (cell_off16 e2 gq _ _) gq _ _; have S5 := Lib.hid (S4.out.set 3 (.int .i64 0)); clear ho hb hg)
          | (go_at_call 33; with_reducible refine (N0.out _).mono ?_; rintro e wn ⟨rfl, rfl⟩)
          | (go_at_call 33; with_reducible refine (N1.out _).mono ?_; rintro e wn ⟨rfl, rfl⟩)
          | (go_at_call 33; with_reducible refine (N2.out _).mono ?_; rintro e wn ⟨rfl, rfl⟩))
        refine wp_loop_rounds 4 ?_
        rw [rounds_succ]
        go_wp2_with (first
          | (go_at_call 32; refine (HP.out _).mono ?_; rintro x9 wp ⟨v9, rfl, ho, hb⟩; obtain ⟨g, cc, rfl, hg⟩ := ho.pos16 (by simp); have gq : g ≠ q := (by have := bk_lt S1.out.bq; omega); have e0 : wp.cell? ⟨g, 0, none⟩ = some (.string ⟨a.toArray⟩) := ho.cell16 (j := 0) rfl; have e1 : wp.cell? ⟨g, 1, none⟩ = some (.string ⟨b.toArray⟩) := ho.cell16 (j := 1) rfl; have e2 : wp.cell? ⟨g, 2, none⟩ = some (.string ⟨c.toArray⟩) := ho.cell16 (j := 2) rfl; have S2 := Lib.hid (S1.out.keep hb); obtain ⟨u0, u1, u2, u3, u4, u5, u6, u7, u8, u9⟩ := S2.out.seeq; have S3 := Lib.hid (S2.out.set 1 (.int .i64 x)); obtain ⟨v0, v1, v2, v3, v4, v5, v6, v7, v8, v9⟩ := S3.out.seeq; have e1' : (wp.setCell ⟨q, 1, none⟩ (.int .i64 x)).cell? ⟨g, 1, none⟩ = some (.string ⟨b.toArray⟩) := cell_off16 e1 gq _ _; have S4 := Lib.hid (S3.out.set 2 (.int .i64 y)); obtain ⟨x0, x1, x2, x3, x4, x5, x6, x7, x8, x9⟩ := S4.out.seeq; have e2' : ((wp.setCell ⟨q, 1, none⟩ (.int .i64 x)).setCell ⟨q, 2, none⟩ (.int .i64 y)).cell? ⟨g, 2, none⟩ = some (.string ⟨c.toArray⟩) := cell_off16 (cell_off16 e2 gq _ _) gq _ _; have S5 := Lib.hid (S4.out.set 3 (.int .i64 0)); clear ho hb hg)
          | (go_at_call 33; with_reducible refine (N0.out _).mono ?_; rintro e wn ⟨rfl, rfl⟩)
          | (go_at_call 33; with_reducible refine (N1.out _).mono ?_; rintro e wn ⟨rfl, rfl⟩)
          | (go_at_call 33; with_reducible refine (N2.out _).mono ?_; rintro e wn ⟨rfl, rfl⟩))
        rw [rounds_succ]
        go_wp2_with (first
          | (go_at_call 32; refine (HP.out _).mono ?_; rintro x9 wp ⟨v9, rfl, ho, hb⟩; obtain ⟨g, cc, rfl, hg⟩ := ho.pos16 (by simp); have gq : g ≠ q := (by have := bk_lt S1.out.bq; omega); have e0 : wp.cell? ⟨g, 0, none⟩ = some (.string ⟨a.toArray⟩) := ho.cell16 (j := 0) rfl; have e1 : wp.cell? ⟨g, 1, none⟩ = some (.string ⟨b.toArray⟩) := ho.cell16 (j := 1) rfl; have e2 : wp.cell? ⟨g, 2, none⟩ = some (.string ⟨c.toArray⟩) := ho.cell16 (j := 2) rfl; have S2 := Lib.hid (S1.out.keep hb); obtain ⟨u0, u1, u2, u3, u4, u5, u6, u7, u8, u9⟩ := S2.out.seeq; have S3 := Lib.hid (S2.out.set 1 (.int .i64 x)); obtain ⟨v0, v1, v2, v3, v4, v5, v6, v7, v8, v9⟩ := S3.out.seeq; have e1' : (wp.setCell ⟨q, 1, none⟩ (.int .i64 x)).cell? ⟨g, 1, none⟩ = some (.string ⟨b.toArray⟩) := cell_off16 e1 gq _ _; have S4 := Lib.hid (S3.out.set 2 (.int .i64 y)); obtain ⟨x0, x1, x2, x3, x4, x5, x6, x7, x8, x9⟩ := S4.out.seeq; have e2' : ((wp.setCell ⟨q, 1, none⟩ (.int .i64 x)).setCell ⟨q, 2, none⟩ (.int .i64 y)).cell? ⟨g, 2, none⟩ = some (.string ⟨c.toArray⟩) := cell_off16 (cell_off16 e2 gq _ _) gq _ _; have S5 := Lib.hid (S4.out.set 3 (.int .i64 0)); clear ho hb hg)
          | (go_at_call 33; with_reducible refine (N0.out _).mono ?_; rintro e wn ⟨rfl, rfl⟩)
          | (go_at_call 33; with_reducible refine (N1.out _).mono ?_; rintro e wn ⟨rfl, rfl⟩)
          | (go_at_call 33; with_reducible refine (N2.out _).mono ?_; rintro e wn ⟨rfl, rfl⟩))
        rw [rounds_succ]
        go_wp2_with (first
          | (go_at_call 32; refine (HP.out _).mono ?_; rintro x9 wp ⟨v9, rfl, ho, hb⟩; obtain ⟨g, cc, rfl, hg⟩ := ho.pos16 (by simp); have gq : g ≠ q := (by have := bk_lt S1.out.bq; omega); have e0 : wp.cell? ⟨g, 0, none⟩ = some (.string ⟨a.toArray⟩) := ho.cell16 (j := 0) rfl; have e1 : wp.cell? ⟨g, 1, none⟩ = some (.string ⟨b.toArray⟩) := ho.cell16 (j := 1) rfl; have e2 : wp.cell? ⟨g, 2, none⟩ = some (.string ⟨c.toArray⟩) := ho.cell16 (j := 2) rfl; have S2 := Lib.hid (S1.out.keep hb); obtain ⟨u0, u1, u2, u3, u4, u5, u6, u7, u8, u9⟩ := S2.out.seeq; have S3 := Lib.hid (S2.out.set 1 (.int .i64 x)); obtain ⟨v0, v1, v2, v3, v4, v5, v6, v7, v8, v9⟩ := S3.out.seeq; have e1' : (wp.setCell ⟨q, 1, none⟩ (.int .i64 x)).cell? ⟨g, 1, none⟩ = some (.string ⟨b.toArray⟩) := cell_off16 e1 gq _ _; have S4 := Lib.hid (S3.out.set 2 (.int .i64 y)); obtain ⟨x0, x1, x2, x3, x4, x5, x6, x7, x8, x9⟩ := S4.out.seeq; have e2' : ((wp.setCell ⟨q, 1, none⟩ (.int .i64 x)).setCell ⟨q, 2, none⟩ (.int .i64 y)).cell? ⟨g, 2, none⟩ = some (.string ⟨c.toArray⟩) := cell_off16 (cell_off16 e2 gq _ _) gq _ _; have S5 := Lib.hid (S4.out.set 3 (.int .i64 0)); clear ho hb hg)
          | (go_at_call 33; with_reducible refine (N0.out _).mono ?_; rintro e wn ⟨rfl, rfl⟩)
          | (go_at_call 33; with_reducible refine (N1.out _).mono ?_; rintro e wn ⟨rfl, rfl⟩)
          | (go_at_call 33; with_reducible refine (N2.out _).mono ?_; rintro e wn ⟨rfl, rfl⟩))
        rw [rounds_succ]
        go_upto_region 29 with (first
          | (go_at_call 32; refine (HP.out _).mono ?_; rintro x9 wp ⟨v9, rfl, ho, hb⟩; obtain ⟨g, cc, rfl, hg⟩ := ho.pos16 (by simp); have gq : g ≠ q := (by have := bk_lt S1.out.bq; omega); have e0 : wp.cell? ⟨g, 0, none⟩ = some (.string ⟨a.toArray⟩) := ho.cell16 (j := 0) rfl; have e1 : wp.cell? ⟨g, 1, none⟩ = some (.string ⟨b.toArray⟩) := ho.cell16 (j := 1) rfl; have e2 : wp.cell? ⟨g, 2, none⟩ = some (.string ⟨c.toArray⟩) := ho.cell16 (j := 2) rfl; have S2 := Lib.hid (S1.out.keep hb); obtain ⟨u0, u1, u2, u3, u4, u5, u6, u7, u8, u9⟩ := S2.out.seeq; have S3 := Lib.hid (S2.out.set 1 (.int .i64 x)); obtain ⟨v0, v1, v2, v3, v4, v5, v6, v7, v8, v9⟩ := S3.out.seeq; have e1' : (wp.setCell ⟨q, 1, none⟩ (.int .i64 x)).cell? ⟨g, 1, none⟩ = some (.string ⟨b.toArray⟩) := cell_off16 e1 gq _ _; have S4 := Lib.hid (S3.out.set 2 (.int .i64 y)); obtain ⟨x0, x1, x2, x3, x4, x5, x6, x7, x8, x9⟩ := S4.out.seeq; have e2' : ((wp.setCell ⟨q, 1, none⟩ (.int .i64 x)).setCell ⟨q, 2, none⟩ (.int .i64 y)).cell? ⟨g, 2, none⟩ = some (.string ⟨c.toArray⟩) := cell_off16 (cell_off16 e2 gq _ _) gq _ _; have S5 := Lib.hid (S4.out.set 3 (.int .i64 0)); clear ho hb hg)
          | (go_at_call 33; with_reducible refine (N0.out _).mono ?_; rintro e wn ⟨rfl, rfl⟩)
          | (go_at_call 33; with_reducible refine (N1.out _).mono ?_; rintro e wn ⟨rfl, rfl⟩)
          | (go_at_call 33; with_reducible refine (N2.out _).mono ?_; rintro e wn ⟨rfl, rfl⟩))
        have S9 := S5.out
        obtain ⟨U, hU⟩ : ∃ U, U = (((wp.setCell ⟨q, 1, none⟩ (.int .i64 x)).setCell ⟨q, 2, none⟩ (.int .i64 y)).setCell ⟨q, 3, none⟩ (.int .i64 0)) := ⟨_, rfl⟩
        rw [← hU] at S9
        rw [← hU]
        clear hU
        skip
        have Z : Dc w U w.heap.size q #[.int .i64 3, .int .i64 x, .int .i64 y, .int .i64 0, .int .i64 7200] := S9
        replace S := Lib.hid Z
        clear Z
        obtain ⟨d0, d1, d2, d3, d4, h0, h1, h2, h3, h4⟩ := S.out.seep
        go_wp2_with fail
        obtain ⟨F, r0, r1, r2, r3, r4⟩ := S.out.done 0 0 0 0 0
        show bodyPost _ _ _ _ _ (put16r U w.heap.size 0 0 0 0 0)
        generalize put16r U w.heap.size 0 0 0 0 0 = WW at *
        refine bodyPost_ret (v := .tuple #[.agg #[.int .i64 0, .int .i64 0, .int .i64 0, .int .i64 0, .int .i64 0], .int .i64 2]) (by simp [results, Try.results16, go_sem, r0, r1, r2, r3, r4]) rfl ⟨rfl, F⟩
end Go.Proofs.Ytkhcneacjnpcnaa
