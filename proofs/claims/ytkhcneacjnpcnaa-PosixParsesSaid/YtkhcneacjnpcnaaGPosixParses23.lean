/- Merged: RulH. -/
import Derived.Test.YtkhcneacjnpcnaaGPosixParses22
namespace Go.Proofs.Ytkhcneacjnpcnaa
open Go.RowKit
set_option linter.unusedVariables false
set_option linter.unusedSimpArgs false

set_option maxHeartbeats 2000000 in
theorem tclock_t0 (g k ka k1 k2 : Nat) (e e1 : Int) (v : Value) (h : Int) (h0 : IntKind.i64.wrap h = h) (w : World) (hs : Sk Ts w g v k e)
    (HT1 : Hid (∀ w, Sk Ts w g v k e → Calls Try.prog 35 #[.pointer (some ⟨g, 0, none⟩), .int .u8 45] w fun x w' => x = .returned (.bool true) ∧ Mv Ts g v ka e w w'))
    (HF1 : Hid (∀ w, Sk Ts w g v ka e → Calls Try.prog 62 #[.pointer (some ⟨g, 0, none⟩), .int .i64 1, .int .i64 3] w fun x w' => x = .returned (.int .i64 h) ∧ Mv Ts g v k1 e1 w w'))
    (HC1 : Hid (∀ w, Sk Ts w g v k1 e1 → Calls Try.prog 35 #[.pointer (some ⟨g, 0, none⟩), .int .u8 58] w fun x w' => x = .returned (.bool false) ∧ Mv Ts g v k2 e1 w w'))
    : Calls Try.prog 54 #[.pointer (some ⟨g, 0, none⟩)] w fun x w' => x = .returned (.agg (clC true h 0 0)) ∧ Mv Ts g v k2 e1 w w' := by
  show Calls _ _ _ _ fun x w' => x = .returned (.agg #[.bool true, .int .i64 h, .int .i64 0, .int .i64 0]) ∧ _
  obtain ⟨W0, hW0⟩ : ∃ W0, W0 = w.alloc (.cells #[.bool false, .int .i64 0, .int .i64 0, .int .i64 0] 88) := ⟨_, rfl⟩
  have S0 : Tr w W0 g v k e w.heap.size #[.bool false, .int .i64 0, .int .i64 0, .int .i64 0] 88 := by rw [hW0]; exact Tr.new hs _ _
  have S := Lib.hid S0
  obtain ⟨d0, d1, d2, d3, h0', h1', h2', h3'⟩ := S.out.seec
  clear S0 hs
  go_enter Try.func54, Try.ntmps54
  go_upto_region 1 with fail
  rw [← hW0]; clear hW0
  go_upto_region 2 with (go_at_call 35; refine (HT1.out _ S.out.sk).mono ?_; rintro x w1 ⟨rfl, hm⟩; have S := Lib.hid (S.out.mv hm); clear hm)
  have S1 := S.out.box #[.bool true, .int .i64 0, .int .i64 0, .int .i64 0]
  obtain ⟨q, hq⟩ : ∃ q, q = w1.heap.size := ⟨_, rfl⟩
  obtain ⟨W1, hW1⟩ : ∃ W1, W1 = w1.alloc (.cells #[.bool true, .int .i64 0, .int .i64 0, .int .i64 0] 88) := ⟨_, rfl⟩
  rw [← hW1, ← hq] at S1
  rw [← hW1, ← hq]
  clear hW1 hq d0 d1 d2 d3 h0' h1' h2' h3'
  replace S := Lib.hid S1
  clear S1
  obtain ⟨c0, c1, c2, c3, f0, f1, f2, f3⟩ := S.out.seec; obtain ⟨d0, d1, d2, d3, h0, h1, h2, h3⟩ := S.out.tr.seec
  go_wp2_with (first
    | (go_at_call 62; with_reducible refine (HF1.out _ S.out.tr.sk).mono ?_; rintro x w3 ⟨rfl, hm⟩; have S := Lib.hid (S.out.mv hm); clear hm; obtain ⟨c0, c1, c2, c3, f0, f1, f2, f3⟩ := S.out.seec; obtain ⟨d0, d1, d2, d3, h0, h1, h2, h3⟩ := S.out.tr.seec; have S := Lib.hid (S.out.set 1 (.int .i64 h)))
    | (go_at_call 35; with_reducible refine (HC1.out _ S.out.tr.sk).mono ?_; rintro x w4 ⟨rfl, hm⟩; have S := Lib.hid (S.out.mv hm); clear hm; obtain ⟨c0, c1, c2, c3, f0, f1, f2, f3⟩ := S.out.seec; obtain ⟨d0, d1, d2, d3, h0, h1, h2, h3⟩ := S.out.tr.seec))
  have F : Tr w (put16c w4 w.heap.size true h 0 0) g v k2 e1 w.heap.size #[.bool true, .int .i64 h, .int .i64 0, .int .i64 0] 88 := S.out.tr.allc _ _ _ _
  show bodyPost _ _ _ _ _ (put16c w4 w.heap.size true h 0 0)
  generalize put16c w4 w.heap.size true h 0 0 = W9 at *
  obtain ⟨r0, r1, r2, r3, -, -, -, -⟩ := F.seec
  refine bodyPost_ret (v := .agg #[.bool true, .int .i64 h, .int .i64 0, .int .i64 0]) (by simp [results, Try.results54, go_sem, r0, r1, r2, r3]) rfl ⟨rfl, F.sk, F.gb⟩
set_option maxHeartbeats 2000000 in
theorem tclock_t1 (g k ka k1 k2 k3 k4 : Nat) (e e1 e3 : Int) (v : Value) (h m : Int) (h0 : IntKind.i64.wrap h = h) (m0 : IntKind.i64.wrap m = m) (w : World) (hs : Sk Ts w g v k e)
    (HT1 : Hid (∀ w, Sk Ts w g v k e → Calls Try.prog 35 #[.pointer (some ⟨g, 0, none⟩), .int .u8 45] w fun x w' => x = .returned (.bool true) ∧ Mv Ts g v ka e w w'))
    (HF1 : Hid (∀ w, Sk Ts w g v ka e → Calls Try.prog 62 #[.pointer (some ⟨g, 0, none⟩), .int .i64 1, .int .i64 3] w fun x w' => x = .returned (.int .i64 h) ∧ Mv Ts g v k1 e1 w w'))
    (HC1 : Hid (∀ w, Sk Ts w g v k1 e1 → Calls Try.prog 35 #[.pointer (some ⟨g, 0, none⟩), .int .u8 58] w fun x w' => x = .returned (.bool true) ∧ Mv Ts g v k2 e1 w w'))
    (HF2 : Hid (∀ w, Sk Ts w g v k2 e1 → Calls Try.prog 62 #[.pointer (some ⟨g, 0, none⟩), .int .i64 2, .int .i64 2] w fun x w' => x = .returned (.int .i64 m) ∧ Mv Ts g v k3 e3 w w'))
    (HC2 : Hid (∀ w, Sk Ts w g v k3 e3 → Calls Try.prog 35 #[.pointer (some ⟨g, 0, none⟩), .int .u8 58] w fun x w' => x = .returned (.bool false) ∧ Mv Ts g v k4 e3 w w'))
    : Calls Try.prog 54 #[.pointer (some ⟨g, 0, none⟩)] w fun x w' => x = .returned (.agg (clC true h m 0)) ∧ Mv Ts g v k4 e3 w w' := by
  show Calls _ _ _ _ fun x w' => x = .returned (.agg #[.bool true, .int .i64 h, .int .i64 m, .int .i64 0]) ∧ _
  obtain ⟨W0, hW0⟩ : ∃ W0, W0 = w.alloc (.cells #[.bool false, .int .i64 0, .int .i64 0, .int .i64 0] 88) := ⟨_, rfl⟩
  have S0 : Tr w W0 g v k e w.heap.size #[.bool false, .int .i64 0, .int .i64 0, .int .i64 0] 88 := by rw [hW0]; exact Tr.new hs _ _
  have S := Lib.hid S0
  obtain ⟨d0, d1, d2, d3, h0', h1', h2', h3'⟩ := S.out.seec
  clear S0 hs
  go_enter Try.func54, Try.ntmps54
  go_upto_region 1 with fail
  rw [← hW0]; clear hW0
  go_upto_region 2 with (go_at_call 35; refine (HT1.out _ S.out.sk).mono ?_; rintro x w1 ⟨rfl, hm⟩; have S := Lib.hid (S.out.mv hm); clear hm)
  have S1 := S.out.box #[.bool true, .int .i64 0, .int .i64 0, .int .i64 0]
  obtain ⟨q, hq⟩ : ∃ q, q = w1.heap.size := ⟨_, rfl⟩
  obtain ⟨W1, hW1⟩ : ∃ W1, W1 = w1.alloc (.cells #[.bool true, .int .i64 0, .int .i64 0, .int .i64 0] 88) := ⟨_, rfl⟩
  rw [← hW1, ← hq] at S1
  rw [← hW1, ← hq]
  clear hW1 hq d0 d1 d2 d3 h0' h1' h2' h3'
  replace S := Lib.hid S1
  clear S1
  obtain ⟨c0, c1, c2, c3, f0, f1, f2, f3⟩ := S.out.seec; obtain ⟨d0, d1, d2, d3, h0, h1, h2, h3⟩ := S.out.tr.seec
  go_wp2_with (first
    | (go_at_call 62; with_reducible refine (HF1.out _ S.out.tr.sk).mono ?_; rintro x w3 ⟨rfl, hm⟩; have S := Lib.hid (S.out.mv hm); clear hm; obtain ⟨c0, c1, c2, c3, f0, f1, f2, f3⟩ := S.out.seec; obtain ⟨d0, d1, d2, d3, h0, h1, h2, h3⟩ := S.out.tr.seec; have S := Lib.hid (S.out.set 1 (.int .i64 h)))
    | (go_at_call 35; with_reducible refine (HC1.out _ S.out.tr.sk).mono ?_; rintro x w4 ⟨rfl, hm⟩; have S := Lib.hid (S.out.mv hm); clear hm; obtain ⟨c0, c1, c2, c3, f0, f1, f2, f3⟩ := S.out.seec; obtain ⟨d0, d1, d2, d3, h0, h1, h2, h3⟩ := S.out.tr.seec)
    | (go_at_call 62; with_reducible refine (HF2.out _ S.out.tr.sk).mono ?_; rintro x w5 ⟨rfl, hm⟩; have S := Lib.hid (S.out.mv hm); clear hm; obtain ⟨c0, c1, c2, c3, f0, f1, f2, f3⟩ := S.out.seec; obtain ⟨d0, d1, d2, d3, h0, h1, h2, h3⟩ := S.out.tr.seec; have S := Lib.hid (S.out.set 2 (.int .i64 m)))
    | (go_at_call 35; with_reducible refine (HC2.out _ S.out.tr.sk).mono ?_; rintro x w6 ⟨rfl, hm⟩; have S := Lib.hid (S.out.mv hm); clear hm; obtain ⟨c0, c1, c2, c3, f0, f1, f2, f3⟩ := S.out.seec; obtain ⟨d0, d1, d2, d3, h0, h1, h2, h3⟩ := S.out.tr.seec))
  have F : Tr w (put16c w6 w.heap.size true h m 0) g v k4 e3 w.heap.size #[.bool true, .int .i64 h, .int .i64 m, .int .i64 0] 88 := S.out.tr.allc _ _ _ _
  show bodyPost _ _ _ _ _ (put16c w6 w.heap.size true h m 0)
  generalize put16c w6 w.heap.size true h m 0 = W9 at *
  obtain ⟨r0, r1, r2, r3, -, -, -, -⟩ := F.seec
  refine bodyPost_ret (v := .agg #[.bool true, .int .i64 h, .int .i64 m, .int .i64 0]) (by simp [results, Try.results54, go_sem, r0, r1, r2, r3]) rfl ⟨rfl, F.sk, F.gb⟩
set_option maxHeartbeats 2000000 in
theorem tclock_t2 (g k ka k1 k2 k3 k4 k5 : Nat) (e e1 e3 e5 : Int) (v : Value) (h m s : Int) (h0 : IntKind.i64.wrap h = h) (m0 : IntKind.i64.wrap m = m) (s0 : IntKind.i64.wrap s = s) (w : World) (hs : Sk Ts w g v k e)
    (HT1 : Hid (∀ w, Sk Ts w g v k e → Calls Try.prog 35 #[.pointer (some ⟨g, 0, none⟩), .int .u8 45] w fun x w' => x = .returned (.bool true) ∧ Mv Ts g v ka e w w'))
    (HF1 : Hid (∀ w, Sk Ts w g v ka e → Calls Try.prog 62 #[.pointer (some ⟨g, 0, none⟩), .int .i64 1, .int .i64 3] w fun x w' => x = .returned (.int .i64 h) ∧ Mv Ts g v k1 e1 w w'))
    (HC1 : Hid (∀ w, Sk Ts w g v k1 e1 → Calls Try.prog 35 #[.pointer (some ⟨g, 0, none⟩), .int .u8 58] w fun x w' => x = .returned (.bool true) ∧ Mv Ts g v k2 e1 w w'))
    (HF2 : Hid (∀ w, Sk Ts w g v k2 e1 → Calls Try.prog 62 #[.pointer (some ⟨g, 0, none⟩), .int .i64 2, .int .i64 2] w fun x w' => x = .returned (.int .i64 m) ∧ Mv Ts g v k3 e3 w w'))
    (HC2 : Hid (∀ w, Sk Ts w g v k3 e3 → Calls Try.prog 35 #[.pointer (some ⟨g, 0, none⟩), .int .u8 58] w fun x w' => x = .returned (.bool true) ∧ Mv Ts g v k4 e3 w w'))
    (HF3 : Hid (∀ w, Sk Ts w g v k4 e3 → Calls Try.prog 62 #[.pointer (some ⟨g, 0, none⟩), .int .i64 2, .int .i64 2] w fun x w' => x = .returned (.int .i64 s) ∧ Mv Ts g v k5 e5 w w'))
    : Calls Try.prog 54 #[.pointer (some ⟨g, 0, none⟩)] w fun x w' => x = .returned (.agg (clC true h m s)) ∧ Mv Ts g v k5 e5 w w' := by
  show Calls _ _ _ _ fun x w' => x = .returned (.agg #[.bool true, .int .i64 h, .int .i64 m, .int .i64 s]) ∧ _
  obtain ⟨W0, hW0⟩ : ∃ W0, W0 = w.alloc (.cells #[.bool false, .int .i64 0, .int .i64 0, .int .i64 0] 88) := ⟨_, rfl⟩
  have S0 : Tr w W0 g v k e w.heap.size #[.bool false, .int .i64 0, .int .i64 0, .int .i64 0] 88 := by rw [hW0]; exact Tr.new hs _ _
  have S := Lib.hid S0
  obtain ⟨d0, d1, d2, d3, h0', h1', h2', h3'⟩ := S.out.seec
  clear S0 hs
  go_enter Try.func54, Try.ntmps54
  go_upto_region 1 with fail
  rw [← hW0]; clear hW0
  go_upto_region 2 with (go_at_call 35; refine (HT1.out _ S.out.sk).mono ?_; rintro x w1 ⟨rfl, hm⟩; have S := Lib.hid (S.out.mv hm); clear hm)
  have S1 := S.out.box #[.bool true, .int .i64 0, .int .i64 0, .int .i64 0]
  obtain ⟨q, hq⟩ : ∃ q, q = w1.heap.size := ⟨_, rfl⟩
  obtain ⟨W1, hW1⟩ : ∃ W1, W1 = w1.alloc (.cells #[.bool true, .int .i64 0, .int .i64 0, .int .i64 0] 88) := ⟨_, rfl⟩
  rw [← hW1, ← hq] at S1
  rw [← hW1, ← hq]
  clear hW1 hq d0 d1 d2 d3 h0' h1' h2' h3'
  replace S := Lib.hid S1
  clear S1
  obtain ⟨c0, c1, c2, c3, f0, f1, f2, f3⟩ := S.out.seec; obtain ⟨d0, d1, d2, d3, h0, h1, h2, h3⟩ := S.out.tr.seec
  go_upto_region 10 with (first
    | (go_at_call 62; with_reducible refine (HF1.out _ S.out.tr.sk).mono ?_; rintro x w3 ⟨rfl, hm⟩; have S := Lib.hid (S.out.mv hm); clear hm; obtain ⟨c0, c1, c2, c3, f0, f1, f2, f3⟩ := S.out.seec; obtain ⟨d0, d1, d2, d3, h0, h1, h2, h3⟩ := S.out.tr.seec; have S := Lib.hid (S.out.set 1 (.int .i64 h)))
    | (go_at_call 35; with_reducible refine (HC1.out _ S.out.tr.sk).mono ?_; rintro x w4 ⟨rfl, hm⟩; have S := Lib.hid (S.out.mv hm); clear hm; obtain ⟨c0, c1, c2, c3, f0, f1, f2, f3⟩ := S.out.seec; obtain ⟨d0, d1, d2, d3, h0, h1, h2, h3⟩ := S.out.tr.seec)
    | (go_at_call 62; with_reducible refine (HF2.out _ S.out.tr.sk).mono ?_; rintro x w5 ⟨rfl, hm⟩; have S := Lib.hid (S.out.mv hm); clear hm; obtain ⟨c0, c1, c2, c3, f0, f1, f2, f3⟩ := S.out.seec; obtain ⟨d0, d1, d2, d3, h0, h1, h2, h3⟩ := S.out.tr.seec; have S := Lib.hid (S.out.set 2 (.int .i64 m)))
    | (go_at_call 35; with_reducible refine (HC2.out _ S.out.tr.sk).mono ?_; rintro x w6 ⟨rfl, hm⟩; have S := Lib.hid (S.out.mv hm); clear hm; obtain ⟨c0, c1, c2, c3, f0, f1, f2, f3⟩ := S.out.seec; obtain ⟨d0, d1, d2, d3, h0, h1, h2, h3⟩ := S.out.tr.seec)
    | (go_at_call 62; with_reducible refine (HF3.out _ S.out.tr.sk).mono ?_; rintro x w7 ⟨rfl, hm⟩; have S := Lib.hid (S.out.mv hm); clear hm; obtain ⟨c0, c1, c2, c3, f0, f1, f2, f3⟩ := S.out.seec; obtain ⟨d0, d1, d2, d3, h0, h1, h2, h3⟩ := S.out.tr.seec; have S := Lib.hid (S.out.set 3 (.int .i64 s))))
  obtain ⟨W8, hW8⟩ : ∃ W8, W8 = w7.setCell ⟨q, 3, none⟩ (.int .i64 s) := ⟨_, rfl⟩
  rw [← hW8] at S
  rw [← hW8]
  clear hW8 c0 c1 c2 c3 f0 f1 f2 f3 d0 d1 d2 d3 h0 h1 h2 h3
  obtain ⟨c0, c1, c2, c3, f0, f1, f2, f3⟩ := S.out.seec; obtain ⟨d0, d1, d2, d3, h0, h1, h2, h3⟩ := S.out.tr.seec
  go_wp2_with fail
  have F : Tr w (put16c W8 w.heap.size true h m s) g v k5 e5 w.heap.size #[.bool true, .int .i64 h, .int .i64 m, .int .i64 s] 88 := S.out.tr.allc _ _ _ _
  show bodyPost _ _ _ _ _ (put16c W8 w.heap.size true h m s)
  generalize put16c W8 w.heap.size true h m s = W9 at *
  obtain ⟨r0, r1, r2, r3, -, -, -, -⟩ := F.seec
  refine bodyPost_ret (v := .agg #[.bool true, .int .i64 h, .int .i64 m, .int .i64 s]) (by simp [results, Try.results54, go_sem, r0, r1, r2, r3]) rfl ⟨rfl, F.sk, F.gb⟩
set_option maxHeartbeats 2000000 in
theorem tclock_f0 (g k ka kb k1 k2 : Nat) (e e1 : Int) (v : Value) (b : Bool) (h : Int) (h0 : IntKind.i64.wrap h = h) (w : World) (hs : Sk Ts w g v k e)
    (HT1 : Hid (∀ w, Sk Ts w g v k e → Calls Try.prog 35 #[.pointer (some ⟨g, 0, none⟩), .int .u8 45] w fun x w' => x = .returned (.bool false) ∧ Mv Ts g v ka e w w'))
    (HT2 : Hid (∀ w, Sk Ts w g v ka e → Calls Try.prog 35 #[.pointer (some ⟨g, 0, none⟩), .int .u8 43] w fun x w' => x = .returned (.bool b) ∧ Mv Ts g v kb e w w'))
    (HF1 : Hid (∀ w, Sk Ts w g v kb e → Calls Try.prog 62 #[.pointer (some ⟨g, 0, none⟩), .int .i64 1, .int .i64 3] w fun x w' => x = .returned (.int .i64 h) ∧ Mv Ts g v k1 e1 w w'))
    (HC1 : Hid (∀ w, Sk Ts w g v k1 e1 → Calls Try.prog 35 #[.pointer (some ⟨g, 0, none⟩), .int .u8 58] w fun x w' => x = .returned (.bool false) ∧ Mv Ts g v k2 e1 w w'))
    : Calls Try.prog 54 #[.pointer (some ⟨g, 0, none⟩)] w fun x w' => x = .returned (.agg (clC false h 0 0)) ∧ Mv Ts g v k2 e1 w w' := by
  show Calls _ _ _ _ fun x w' => x = .returned (.agg #[.bool false, .int .i64 h, .int .i64 0, .int .i64 0]) ∧ _
  obtain ⟨W0, hW0⟩ : ∃ W0, W0 = w.alloc (.cells #[.bool false, .int .i64 0, .int .i64 0, .int .i64 0] 88) := ⟨_, rfl⟩
  have S0 : Tr w W0 g v k e w.heap.size #[.bool false, .int .i64 0, .int .i64 0, .int .i64 0] 88 := by rw [hW0]; exact Tr.new hs _ _
  have S := Lib.hid S0
  obtain ⟨d0, d1, d2, d3, h0', h1', h2', h3'⟩ := S.out.seec
  clear S0 hs
  go_enter Try.func54, Try.ntmps54
  go_upto_region 1 with fail
  rw [← hW0]; clear hW0
  go_upto_region 2 with (go_at_call 35; refine (HT1.out _ S.out.sk).mono ?_; rintro x w1 ⟨rfl, hm⟩; have S := Lib.hid (S.out.mv hm); clear hm)
  have S1 := S.out.box #[.bool false, .int .i64 0, .int .i64 0, .int .i64 0]
  obtain ⟨q, hq⟩ : ∃ q, q = w1.heap.size := ⟨_, rfl⟩
  obtain ⟨W1, hW1⟩ : ∃ W1, W1 = w1.alloc (.cells #[.bool false, .int .i64 0, .int .i64 0, .int .i64 0] 88) := ⟨_, rfl⟩
  rw [← hW1, ← hq] at S1
  rw [← hW1, ← hq]
  clear hW1 hq d0 d1 d2 d3 h0' h1' h2' h3'
  replace S := Lib.hid S1
  clear S1
  obtain ⟨c0, c1, c2, c3, f0, f1, f2, f3⟩ := S.out.seec; obtain ⟨d0, d1, d2, d3, h0, h1, h2, h3⟩ := S.out.tr.seec
  go_wp2_with (first
    | (go_at_call 35; with_reducible refine (HT2.out _ S.out.tr.sk).mono ?_; rintro x w2 ⟨rfl, hm⟩; have S := Lib.hid (S.out.mv hm); clear hm; obtain ⟨c0, c1, c2, c3, f0, f1, f2, f3⟩ := S.out.seec; obtain ⟨d0, d1, d2, d3, h0, h1, h2, h3⟩ := S.out.tr.seec)
    | (go_at_call 62; with_reducible refine (HF1.out _ S.out.tr.sk).mono ?_; rintro x w3 ⟨rfl, hm⟩; have S := Lib.hid (S.out.mv hm); clear hm; obtain ⟨c0, c1, c2, c3, f0, f1, f2, f3⟩ := S.out.seec; obtain ⟨d0, d1, d2, d3, h0, h1, h2, h3⟩ := S.out.tr.seec; have S := Lib.hid (S.out.set 1 (.int .i64 h)))
    | (go_at_call 35; with_reducible refine (HC1.out _ S.out.tr.sk).mono ?_; rintro x w4 ⟨rfl, hm⟩; have S := Lib.hid (S.out.mv hm); clear hm; obtain ⟨c0, c1, c2, c3, f0, f1, f2, f3⟩ := S.out.seec; obtain ⟨d0, d1, d2, d3, h0, h1, h2, h3⟩ := S.out.tr.seec))
  have F : Tr w (put16c w4 w.heap.size false h 0 0) g v k2 e1 w.heap.size #[.bool false, .int .i64 h, .int .i64 0, .int .i64 0] 88 := S.out.tr.allc _ _ _ _
  show bodyPost _ _ _ _ _ (put16c w4 w.heap.size false h 0 0)
  generalize put16c w4 w.heap.size false h 0 0 = W9 at *
  obtain ⟨r0, r1, r2, r3, -, -, -, -⟩ := F.seec
  refine bodyPost_ret (v := .agg #[.bool false, .int .i64 h, .int .i64 0, .int .i64 0]) (by simp [results, Try.results54, go_sem, r0, r1, r2, r3]) rfl ⟨rfl, F.sk, F.gb⟩
set_option maxHeartbeats 2000000 in
theorem tclock_f1 (g k ka kb k1 k2 k3 k4 : Nat) (e e1 e3 : Int) (v : Value) (b : Bool) (h m : Int) (h0 : IntKind.i64.wrap h = h) (m0 : IntKind.i64.wrap m = m) (w : World) (hs : Sk Ts w g v k e)
    (HT1 : Hid (∀ w, Sk Ts w g v k e → Calls Try.prog 35 #[.pointer (some ⟨g, 0, none⟩), .int .u8 45] w fun x w' => x = .returned (.bool false) ∧ Mv Ts g v ka e w w'))
    (HT2 : Hid (∀ w, Sk Ts w g v ka e → Calls Try.prog 35 #[.pointer (some ⟨g, 0, none⟩), .int .u8 43] w fun x w' => x = .returned (.bool b) ∧ Mv Ts g v kb e w w'))
    (HF1 : Hid (∀ w, Sk Ts w g v kb e → Calls Try.prog 62 #[.pointer (some ⟨g, 0, none⟩), .int .i64 1, .int .i64 3] w fun x w' => x = .returned (.int .i64 h) ∧ Mv Ts g v k1 e1 w w'))
    (HC1 : Hid (∀ w, Sk Ts w g v k1 e1 → Calls Try.prog 35 #[.pointer (some ⟨g, 0, none⟩), .int .u8 58] w fun x w' => x = .returned (.bool true) ∧ Mv Ts g v k2 e1 w w'))
    (HF2 : Hid (∀ w, Sk Ts w g v k2 e1 → Calls Try.prog 62 #[.pointer (some ⟨g, 0, none⟩), .int .i64 2, .int .i64 2] w fun x w' => x = .returned (.int .i64 m) ∧ Mv Ts g v k3 e3 w w'))
    (HC2 : Hid (∀ w, Sk Ts w g v k3 e3 → Calls Try.prog 35 #[.pointer (some ⟨g, 0, none⟩), .int .u8 58] w fun x w' => x = .returned (.bool false) ∧ Mv Ts g v k4 e3 w w'))
    : Calls Try.prog 54 #[.pointer (some ⟨g, 0, none⟩)] w fun x w' => x = .returned (.agg (clC false h m 0)) ∧ Mv Ts g v k4 e3 w w' := by
  show Calls _ _ _ _ fun x w' => x = .returned (.agg #[.bool false, .int .i64 h, .int .i64 m, .int .i64 0]) ∧ _
  obtain ⟨W0, hW0⟩ : ∃ W0, W0 = w.alloc (.cells #[.bool false, .int .i64 0, .int .i64 0, .int .i64 0] 88) := ⟨_, rfl⟩
  have S0 : Tr w W0 g v k e w.heap.size #[.bool false, .int .i64 0, .int .i64 0, .int .i64 0] 88 := by rw [hW0]; exact Tr.new hs _ _
  have S := Lib.hid S0
  obtain ⟨d0, d1, d2, d3, h0', h1', h2', h3'⟩ := S.out.seec
  clear S0 hs
  go_enter Try.func54, Try.ntmps54
  go_upto_region 1 with fail
  rw [← hW0]; clear hW0
  go_upto_region 2 with (go_at_call 35; refine (HT1.out _ S.out.sk).mono ?_; rintro x w1 ⟨rfl, hm⟩; have S := Lib.hid (S.out.mv hm); clear hm)
  have S1 := S.out.box #[.bool false, .int .i64 0, .int .i64 0, .int .i64 0]
  obtain ⟨q, hq⟩ : ∃ q, q = w1.heap.size := ⟨_, rfl⟩
  obtain ⟨W1, hW1⟩ : ∃ W1, W1 = w1.alloc (.cells #[.bool false, .int .i64 0, .int .i64 0, .int .i64 0] 88) := ⟨_, rfl⟩
  rw [← hW1, ← hq] at S1
  rw [← hW1, ← hq]
  clear hW1 hq d0 d1 d2 d3 h0' h1' h2' h3'
  replace S := Lib.hid S1
  clear S1
  obtain ⟨c0, c1, c2, c3, f0, f1, f2, f3⟩ := S.out.seec; obtain ⟨d0, d1, d2, d3, h0, h1, h2, h3⟩ := S.out.tr.seec
  go_wp2_with (first
    | (go_at_call 35; with_reducible refine (HT2.out _ S.out.tr.sk).mono ?_; rintro x w2 ⟨rfl, hm⟩; have S := Lib.hid (S.out.mv hm); clear hm; obtain ⟨c0, c1, c2, c3, f0, f1, f2, f3⟩ := S.out.seec; obtain ⟨d0, d1, d2, d3, h0, h1, h2, h3⟩ := S.out.tr.seec)
    | (go_at_call 62; with_reducible refine (HF1.out _ S.out.tr.sk).mono ?_; rintro x w3 ⟨rfl, hm⟩; have S := Lib.hid (S.out.mv hm); clear hm; obtain ⟨c0, c1, c2, c3, f0, f1, f2, f3⟩ := S.out.seec; obtain ⟨d0, d1, d2, d3, h0, h1, h2, h3⟩ := S.out.tr.seec; have S := Lib.hid (S.out.set 1 (.int .i64 h)))
    | (go_at_call 35; with_reducible refine (HC1.out _ S.out.tr.sk).mono ?_; rintro x w4 ⟨rfl, hm⟩; have S := Lib.hid (S.out.mv hm); clear hm; obtain ⟨c0, c1, c2, c3, f0, f1, f2, f3⟩ := S.out.seec; obtain ⟨d0, d1, d2, d3, h0, h1, h2, h3⟩ := S.out.tr.seec)
    | (go_at_call 62; with_reducible refine (HF2.out _ S.out.tr.sk).mono ?_; rintro x w5 ⟨rfl, hm⟩; have S := Lib.hid (S.out.mv hm); clear hm; obtain ⟨c0, c1, c2, c3, f0, f1, f2, f3⟩ := S.out.seec; obtain ⟨d0, d1, d2, d3, h0, h1, h2, h3⟩ := S.out.tr.seec; have S := Lib.hid (S.out.set 2 (.int .i64 m)))
    | (go_at_call 35; with_reducible refine (HC2.out _ S.out.tr.sk).mono ?_; rintro x w6 ⟨rfl, hm⟩; have S := Lib.hid (S.out.mv hm); clear hm; obtain ⟨c0, c1, c2, c3, f0, f1, f2, f3⟩ := S.out.seec; obtain ⟨d0, d1, d2, d3, h0, h1, h2, h3⟩ := S.out.tr.seec))
  have F : Tr w (put16c w6 w.heap.size false h m 0) g v k4 e3 w.heap.size #[.bool false, .int .i64 h, .int .i64 m, .int .i64 0] 88 := S.out.tr.allc _ _ _ _
  show bodyPost _ _ _ _ _ (put16c w6 w.heap.size false h m 0)
  generalize put16c w6 w.heap.size false h m 0 = W9 at *
  obtain ⟨r0, r1, r2, r3, -, -, -, -⟩ := F.seec
  refine bodyPost_ret (v := .agg #[.bool false, .int .i64 h, .int .i64 m, .int .i64 0]) (by simp [results, Try.results54, go_sem, r0, r1, r2, r3]) rfl ⟨rfl, F.sk, F.gb⟩
set_option maxHeartbeats 2000000 in
theorem tclock_f2 (g k ka kb k1 k2 k3 k4 k5 : Nat) (e e1 e3 e5 : Int) (v : Value) (b : Bool) (h m s : Int) (h0 : IntKind.i64.wrap h = h) (m0 : IntKind.i64.wrap m = m) (s0 : IntKind.i64.wrap s = s) (w : World) (hs : Sk Ts w g v k e)
    (HT1 : Hid (∀ w, Sk Ts w g v k e → Calls Try.prog 35 #[.pointer (some ⟨g, 0, none⟩), .int .u8 45] w fun x w' => x = .returned (.bool false) ∧ Mv Ts g v ka e w w'))
    (HT2 : Hid (∀ w, Sk Ts w g v ka e → Calls Try.prog 35 #[.pointer (some ⟨g, 0, none⟩), .int .u8 43] w fun x w' => x = .returned (.bool b) ∧ Mv Ts g v kb e w w'))
    (HF1 : Hid (∀ w, Sk Ts w g v kb e → Calls Try.prog 62 #[.pointer (some ⟨g, 0, none⟩), .int .i64 1, .int .i64 3] w fun x w' => x = .returned (.int .i64 h) ∧ Mv Ts g v k1 e1 w w'))
    (HC1 : Hid (∀ w, Sk Ts w g v k1 e1 → Calls Try.prog 35 #[.pointer (some ⟨g, 0, none⟩), .int .u8 58] w fun x w' => x = .returned (.bool true) ∧ Mv Ts g v k2 e1 w w'))
    (HF2 : Hid (∀ w, Sk Ts w g v k2 e1 → Calls Try.prog 62 #[.pointer (some ⟨g, 0, none⟩), .int .i64 2, .int .i64 2] w fun x w' => x = .returned (.int .i64 m) ∧ Mv Ts g v k3 e3 w w'))
    (HC2 : Hid (∀ w, Sk Ts w g v k3 e3 → Calls Try.prog 35 #[.pointer (some ⟨g, 0, none⟩), .int .u8 58] w fun x w' => x = .returned (.bool true) ∧ Mv Ts g v k4 e3 w w'))
    (HF3 : Hid (∀ w, Sk Ts w g v k4 e3 → Calls Try.prog 62 #[.pointer (some ⟨g, 0, none⟩), .int .i64 2, .int .i64 2] w fun x w' => x = .returned (.int .i64 s) ∧ Mv Ts g v k5 e5 w w'))
    : Calls Try.prog 54 #[.pointer (some ⟨g, 0, none⟩)] w fun x w' => x = .returned (.agg (clC false h m s)) ∧ Mv Ts g v k5 e5 w w' := by
  show Calls _ _ _ _ fun x w' => x = .returned (.agg #[.bool false, .int .i64 h, .int .i64 m, .int .i64 s]) ∧ _
  obtain ⟨W0, hW0⟩ : ∃ W0, W0 = w.alloc (.cells #[.bool false, .int .i64 0, .int .i64 0, .int .i64 0] 88) := ⟨_, rfl⟩
  have S0 : Tr w W0 g v k e w.heap.size #[.bool false, .int .i64 0, .int .i64 0, .int .i64 0] 88 := by rw [hW0]; exact Tr.new hs _ _
  have S := Lib.hid S0
  obtain ⟨d0, d1, d2, d3, h0', h1', h2', h3'⟩ := S.out.seec
  clear S0 hs
  go_enter Try.func54, Try.ntmps54
  go_upto_region 1 with fail
  rw [← hW0]; clear hW0
  go_upto_region 2 with (go_at_call 35; refine (HT1.out _ S.out.sk).mono ?_; rintro x w1 ⟨rfl, hm⟩; have S := Lib.hid (S.out.mv hm); clear hm)
  have S1 := S.out.box #[.bool false, .int .i64 0, .int .i64 0, .int .i64 0]
  obtain ⟨q, hq⟩ : ∃ q, q = w1.heap.size := ⟨_, rfl⟩
  obtain ⟨W1, hW1⟩ : ∃ W1, W1 = w1.alloc (.cells #[.bool false, .int .i64 0, .int .i64 0, .int .i64 0] 88) := ⟨_, rfl⟩
  rw [← hW1, ← hq] at S1
  rw [← hW1, ← hq]
  clear hW1 hq d0 d1 d2 d3 h0' h1' h2' h3'
  replace S := Lib.hid S1
  clear S1
  obtain ⟨c0, c1, c2, c3, f0, f1, f2, f3⟩ := S.out.seec; obtain ⟨d0, d1, d2, d3, h0, h1, h2, h3⟩ := S.out.tr.seec
  go_upto_region 10 with (first
    | (go_at_call 35; with_reducible refine (HT2.out _ S.out.tr.sk).mono ?_; rintro x w2 ⟨rfl, hm⟩; have S := Lib.hid (S.out.mv hm); clear hm; obtain ⟨c0, c1, c2, c3, f0, f1, f2, f3⟩ := S.out.seec; obtain ⟨d0, d1, d2, d3, h0, h1, h2, h3⟩ := S.out.tr.seec)
    | (go_at_call 62; with_reducible refine (HF1.out _ S.out.tr.sk).mono ?_; rintro x w3 ⟨rfl, hm⟩; have S := Lib.hid (S.out.mv hm); clear hm; obtain ⟨c0, c1, c2, c3, f0, f1, f2, f3⟩ := S.out.seec; obtain ⟨d0, d1, d2, d3, h0, h1, h2, h3⟩ := S.out.tr.seec; have S := Lib.hid (S.out.set 1 (.int .i64 h)))
    | (go_at_call 35; with_reducible refine (HC1.out _ S.out.tr.sk).mono ?_; rintro x w4 ⟨rfl, hm⟩; have S := Lib.hid (S.out.mv hm); clear hm; obtain ⟨c0, c1, c2, c3, f0, f1, f2, f3⟩ := S.out.seec; obtain ⟨d0, d1, d2, d3, h0, h1, h2, h3⟩ := S.out.tr.seec)
    | (go_at_call 62; with_reducible refine (HF2.out _ S.out.tr.sk).mono ?_; rintro x w5 ⟨rfl, hm⟩; have S := Lib.hid (S.out.mv hm); clear hm; obtain ⟨c0, c1, c2, c3, f0, f1, f2, f3⟩ := S.out.seec; obtain ⟨d0, d1, d2, d3, h0, h1, h2, h3⟩ := S.out.tr.seec; have S := Lib.hid (S.out.set 2 (.int .i64 m)))
    | (go_at_call 35; with_reducible refine (HC2.out _ S.out.tr.sk).mono ?_; rintro x w6 ⟨rfl, hm⟩; have S := Lib.hid (S.out.mv hm); clear hm; obtain ⟨c0, c1, c2, c3, f0, f1, f2, f3⟩ := S.out.seec; obtain ⟨d0, d1, d2, d3, h0, h1, h2, h3⟩ := S.out.tr.seec)
    | (go_at_call 62; with_reducible refine (HF3.out _ S.out.tr.sk).mono ?_; rintro x w7 ⟨rfl, hm⟩; have S := Lib.hid (S.out.mv hm); clear hm; obtain ⟨c0, c1, c2, c3, f0, f1, f2, f3⟩ := S.out.seec; obtain ⟨d0, d1, d2, d3, h0, h1, h2, h3⟩ := S.out.tr.seec; have S := Lib.hid (S.out.set 3 (.int .i64 s))))
  obtain ⟨W8, hW8⟩ : ∃ W8, W8 = w7.setCell ⟨q, 3, none⟩ (.int .i64 s) := ⟨_, rfl⟩
  rw [← hW8] at S
  rw [← hW8]
  clear hW8 c0 c1 c2 c3 f0 f1 f2 f3 d0 d1 d2 d3 h0 h1 h2 h3
  obtain ⟨c0, c1, c2, c3, f0, f1, f2, f3⟩ := S.out.seec; obtain ⟨d0, d1, d2, d3, h0, h1, h2, h3⟩ := S.out.tr.seec
  go_wp2_with fail
  have F : Tr w (put16c W8 w.heap.size false h m s) g v k5 e5 w.heap.size #[.bool false, .int .i64 h, .int .i64 m, .int .i64 s] 88 := S.out.tr.allc _ _ _ _
  show bodyPost _ _ _ _ _ (put16c W8 w.heap.size false h m s)
  generalize put16c W8 w.heap.size false h m s = W9 at *
  obtain ⟨r0, r1, r2, r3, -, -, -, -⟩ := F.seec
  refine bodyPost_ret (v := .agg #[.bool false, .int .i64 h, .int .i64 m, .int .i64 s]) (by simp [results, Try.results54, go_sem, r0, r1, r2, r3]) rfl ⟨rfl, F.sk, F.gb⟩
set_option maxHeartbeats 2000000 in
theorem tweekly_way (g k k1 k2 k3 k4 k5 : Nat) (e e1 e2 e3 e4 e5 : Int) (v : Value) (a b c : Int) (x1 : IntKind.i64.wrap a = a) (x2 : IntKind.i64.wrap b = b) (x3 : IntKind.i64.wrap c = c) (w : World) (hs : Sk Ts w g v k e)
    (HF1 : Hid (∀ w, Sk Ts w g v k e → Calls Try.prog 62 #[.pointer (some ⟨g, 0, none⟩), .int .i64 1, .int .i64 2] w fun x w' => x = .returned (.int .i64 a) ∧ Mv Ts g v k1 e1 w w'))
    (HM1 : Hid (∀ w, Sk Ts w g v k1 e1 → Calls Try.prog 37 #[.pointer (some ⟨g, 0, none⟩), .string ⟨#[46]⟩] w fun x w' => x = .returned (.tuple #[]) ∧ Mv Ts g v k2 e2 w w'))
    (HF2 : Hid (∀ w, Sk Ts w g v k2 e2 → Calls Try.prog 62 #[.pointer (some ⟨g, 0, none⟩), .int .i64 1, .int .i64 1] w fun x w' => x = .returned (.int .i64 b) ∧ Mv Ts g v k3 e3 w w'))
    (HM2 : Hid (∀ w, Sk Ts w g v k3 e3 → Calls Try.prog 37 #[.pointer (some ⟨g, 0, none⟩), .string ⟨#[46]⟩] w fun x w' => x = .returned (.tuple #[]) ∧ Mv Ts g v k4 e4 w w'))
    (HF3 : Hid (∀ w, Sk Ts w g v k4 e4 → Calls Try.prog 62 #[.pointer (some ⟨g, 0, none⟩), .int .i64 1, .int .i64 1] w fun x w' => x = .returned (.int .i64 c) ∧ Mv Ts g v k5 e5 w w'))
    : Calls Try.prog 63 #[.pointer (some ⟨g, 0, none⟩)] w fun x w' => x = .returned (.agg #[.int .i64 3, .int .i64 a, .int .i64 b, .int .i64 c, .int .i64 0]) ∧ Mv Ts g v k5 e5 w w' := by
  obtain ⟨W0, hW0⟩ : ∃ W0, W0 = w.alloc (.cells #[.int .i64 0, .int .i64 0, .int .i64 0, .int .i64 0, .int .i64 0] 24) := ⟨_, rfl⟩
  have S0 : Tr w W0 g v k e w.heap.size #[.int .i64 0, .int .i64 0, .int .i64 0, .int .i64 0, .int .i64 0] 24 := by rw [hW0]; exact Tr.new hs _ _
  have S1 := S0.box #[.int .i64 3, .int .i64 0, .int .i64 0, .int .i64 0, .int .i64 0]
  obtain ⟨q, hq⟩ : ∃ q, q = W0.heap.size := ⟨_, rfl⟩
  obtain ⟨W1, hW1⟩ : ∃ W1, W1 = W0.alloc (.cells #[.int .i64 3, .int .i64 0, .int .i64 0, .int .i64 0, .int .i64 0] 24) := ⟨_, rfl⟩
  rw [← hW1, ← hq] at S1
  have S := Lib.hid S1
  clear S0 S1 hs
  go_enter Try.func63, Try.ntmps63
  go_upto_region 1 with fail
  rw [← hW0]; clear hW0
  go_upto_region 2 with fail
  rw [← hW1, ← hq]
  clear hW1 hq
  obtain ⟨c0, c1, c2, c3, c4, f0, f1, f2, f3, f4⟩ := S.out.seer; obtain ⟨d0, d1, d2, d3, d4, h0, h1, h2, h3, h4⟩ := S.out.tr.seer
  go_upto_region 7 with (first
    | (go_at_call 62; with_reducible refine (HF1.out _ S.out.tr.sk).mono ?_; rintro x w2 ⟨rfl, hm⟩; have S := Lib.hid (S.out.mv hm); clear hm; obtain ⟨c0, c1, c2, c3, c4, f0, f1, f2, f3, f4⟩ := S.out.seer; obtain ⟨d0, d1, d2, d3, d4, h0, h1, h2, h3, h4⟩ := S.out.tr.seer; have S := Lib.hid (S.out.set 1 (.int .i64 a)))
    | (go_at_call 37; with_reducible refine (HM1.out _ S.out.tr.sk).mono ?_; rintro x w3 ⟨rfl, hm⟩; have S := Lib.hid (S.out.mv hm); clear hm; obtain ⟨c0, c1, c2, c3, c4, f0, f1, f2, f3, f4⟩ := S.out.seer; obtain ⟨d0, d1, d2, d3, d4, h0, h1, h2, h3, h4⟩ := S.out.tr.seer)
    | (go_at_call 62; with_reducible refine (HF2.out _ S.out.tr.sk).mono ?_; rintro x w4 ⟨rfl, hm⟩; have S := Lib.hid (S.out.mv hm); clear hm; obtain ⟨c0, c1, c2, c3, c4, f0, f1, f2, f3, f4⟩ := S.out.seer; obtain ⟨d0, d1, d2, d3, d4, h0, h1, h2, h3, h4⟩ := S.out.tr.seer; have S := Lib.hid (S.out.set 2 (.int .i64 b)))
    | (go_at_call 37; with_reducible refine (HM2.out _ S.out.tr.sk).mono ?_; rintro x w5 ⟨rfl, hm⟩; have S := Lib.hid (S.out.mv hm); clear hm; obtain ⟨c0, c1, c2, c3, c4, f0, f1, f2, f3, f4⟩ := S.out.seer; obtain ⟨d0, d1, d2, d3, d4, h0, h1, h2, h3, h4⟩ := S.out.tr.seer)
    | (go_at_call 62; with_reducible refine (HF3.out _ S.out.tr.sk).mono ?_; rintro x w6 ⟨rfl, hm⟩; have S := Lib.hid (S.out.mv hm); clear hm; obtain ⟨c0, c1, c2, c3, c4, f0, f1, f2, f3, f4⟩ := S.out.seer; obtain ⟨d0, d1, d2, d3, d4, h0, h1, h2, h3, h4⟩ := S.out.tr.seer; have S := Lib.hid (S.out.set 3 (.int .i64 c))))
  obtain ⟨W8, hW8⟩ : ∃ W8, W8 = w6.setCell ⟨q, 3, none⟩ (.int .i64 c) := ⟨_, rfl⟩
  rw [← hW8] at S
  rw [← hW8]
  clear hW8
  clear c0 c1 c2 c3 c4 f0 f1 f2 f3 f4 d0 d1 d2 d3 d4 h0 h1 h2 h3 h4
  obtain ⟨c0, c1, c2, c3, c4, f0, f1, f2, f3, f4⟩ := S.out.seer; obtain ⟨d0, d1, d2, d3, d4, h0, h1, h2, h3, h4⟩ := S.out.tr.seer
  go_wp2_with fail
  have F : Tr w (put16r W8 w.heap.size 3 a b c 0) g v k5 e5 w.heap.size #[.int .i64 3, .int .i64 a, .int .i64 b, .int .i64 c, .int .i64 0] 24 := S.out.tr.allr _ _ _ _ _
  show bodyPost _ _ _ _ _ (put16r W8 w.heap.size 3 a b c 0)
  generalize put16r W8 w.heap.size 3 a b c 0 = W9 at *
  obtain ⟨r0, r1, r2, r3, r4, -, -, -, -, -⟩ := F.seer
  refine bodyPost_ret (v := .agg #[.int .i64 3, .int .i64 a, .int .i64 b, .int .i64 c, .int .i64 0]) (by simp [results, Try.results63, go_sem, r0, r1, r2, r3, r4]) rfl ⟨rfl, F.sk, F.gb⟩
set_option maxHeartbeats 2000000 in
theorem tday_m (g k k1 k2 : Nat) (e e2 : Int) (v : Value) (a b c : Int) (w : World) (hs : Sk Ts w g v k e)
    (HT1 : Hid (∀ w, Sk Ts w g v k e → Calls Try.prog 35 #[.pointer (some ⟨g, 0, none⟩), .int .u8 77] w fun x w' => x = .returned (.bool true) ∧ Mv Ts g v k1 e w w'))
    (HW : Hid (∀ w, Sk Ts w g v k1 e → Calls Try.prog 63 #[.pointer (some ⟨g, 0, none⟩)] w fun x w' => x = .returned (.agg #[.int .i64 3, .int .i64 a, .int .i64 b, .int .i64 c, .int .i64 0]) ∧ Mv Ts g v k2 e2 w w'))
    : Calls Try.prog 57 #[.pointer (some ⟨g, 0, none⟩)] w fun x w' => x = .returned (.agg #[.int .i64 3, .int .i64 a, .int .i64 b, .int .i64 c, .int .i64 0]) ∧ Mv Ts g v k2 e2 w w' := by
  obtain ⟨W0, hW0⟩ : ∃ W0, W0 = w.alloc (.cells #[.int .i64 0, .int .i64 0, .int .i64 0, .int .i64 0, .int .i64 0] 24) := ⟨_, rfl⟩
  have S0 : Tr w W0 g v k e w.heap.size #[.int .i64 0, .int .i64 0, .int .i64 0, .int .i64 0, .int .i64 0] 24 := by rw [hW0]; exact Tr.new hs _ _
  have S := Lib.hid S0
  clear S0 hs
  obtain ⟨d0, d1, d2, d3, d4, h0, h1, h2, h3, h4⟩ := S.out.seer
  go_enter Try.func57, Try.ntmps57
  go_upto_region 1 with fail
  rw [← hW0]; clear hW0
  go_wp2_with (first
    | (go_at_call 35; with_reducible refine (HT1.out _ S.out.sk).mono ?_; rintro x w1 ⟨rfl, hm⟩; have S := Lib.hid (S.out.mv hm); clear hm; obtain ⟨d0, d1, d2, d3, d4, h0, h1, h2, h3, h4⟩ := S.out.seer)
    | (go_at_call 63; with_reducible refine (HW.out _ S.out.sk).mono ?_; rintro x w2 ⟨rfl, hm⟩; have S := Lib.hid (S.out.mv hm); clear hm; obtain ⟨d0, d1, d2, d3, d4, h0, h1, h2, h3, h4⟩ := S.out.seer))
  have F : Tr w (put16r w2 w.heap.size 3 a b c 0) g v k2 e2 w.heap.size #[.int .i64 3, .int .i64 a, .int .i64 b, .int .i64 c, .int .i64 0] 24 := S.out.allr _ _ _ _ _
  show bodyPost _ _ _ _ _ (put16r w2 w.heap.size 3 a b c 0)
  generalize put16r w2 w.heap.size 3 a b c 0 = W9 at *
  obtain ⟨r0, r1, r2, r3, r4, -, -, -, -, -⟩ := F.seer
  refine bodyPost_ret (v := .agg #[.int .i64 3, .int .i64 a, .int .i64 b, .int .i64 c, .int .i64 0]) (by simp [results, Try.results57, go_sem, r0, r1, r2, r3, r4]) rfl ⟨rfl, F.sk, F.gb⟩
set_option maxHeartbeats 2000000 in
theorem tday_j (g k k1 k2 k3 : Nat) (e e3 : Int) (v : Value) (a : Int) (a0 : IntKind.i64.wrap a = a) (w : World) (hs : Sk Ts w g v k e)
    (HT1 : Hid (∀ w, Sk Ts w g v k e → Calls Try.prog 35 #[.pointer (some ⟨g, 0, none⟩), .int .u8 77] w fun x w' => x = .returned (.bool false) ∧ Mv Ts g v k1 e w w'))
    (HT2 : Hid (∀ w, Sk Ts w g v k1 e → Calls Try.prog 35 #[.pointer (some ⟨g, 0, none⟩), .int .u8 74] w fun x w' => x = .returned (.bool true) ∧ Mv Ts g v k2 e w w'))
    (HF1 : Hid (∀ w, Sk Ts w g v k2 e → Calls Try.prog 62 #[.pointer (some ⟨g, 0, none⟩), .int .i64 1, .int .i64 3] w fun x w' => x = .returned (.int .i64 a) ∧ Mv Ts g v k3 e3 w w'))
    : Calls Try.prog 57 #[.pointer (some ⟨g, 0, none⟩)] w fun x w' => x = .returned (.agg #[.int .i64 1, .int .i64 0, .int .i64 0, .int .i64 a, .int .i64 0]) ∧ Mv Ts g v k3 e3 w w' := by
  obtain ⟨W0, hW0⟩ : ∃ W0, W0 = w.alloc (.cells #[.int .i64 0, .int .i64 0, .int .i64 0, .int .i64 0, .int .i64 0] 24) := ⟨_, rfl⟩
  have S0 : Tr w W0 g v k e w.heap.size #[.int .i64 0, .int .i64 0, .int .i64 0, .int .i64 0, .int .i64 0] 24 := by rw [hW0]; exact Tr.new hs _ _
  have S := Lib.hid S0
  clear S0 hs
  obtain ⟨d0, d1, d2, d3, d4, h0, h1, h2, h3, h4⟩ := S.out.seer
  go_enter Try.func57, Try.ntmps57
  go_upto_region 1 with fail
  rw [← hW0]; clear hW0
  go_upto_region 3 with (go_at_call 35; with_reducible refine (HT1.out _ S.out.sk).mono ?_; rintro x w1 ⟨rfl, hm⟩; have S := Lib.hid (S.out.mv hm); clear hm)
  clear d0 d1 d2 d3 d4 h0 h1 h2 h3 h4
  go_upto_region 4 with fail
  have S1 := S.out.box #[.int .i64 2, .int .i64 0, .int .i64 0, .int .i64 0, .int .i64 0]
  obtain ⟨q, hq⟩ : ∃ q, q = w1.heap.size := ⟨_, rfl⟩
  obtain ⟨W1, hW1⟩ : ∃ W1, W1 = w1.alloc (.cells #[.int .i64 2, .int .i64 0, .int .i64 0, .int .i64 0, .int .i64 0] 24) := ⟨_, rfl⟩
  rw [← hW1, ← hq] at S1
  rw [← hW1, ← hq]
  clear hW1 hq
  replace S := Lib.hid S1
  clear S1
  obtain ⟨c0, c1, c2, c3, c4, f0, f1, f2, f3, f4⟩ := S.out.seer; obtain ⟨d0, d1, d2, d3, d4, h0, h1, h2, h3, h4⟩ := S.out.tr.seer
  go_upto_region 7 with (first
    | (go_at_call 35; with_reducible refine (HT2.out _ S.out.tr.sk).mono ?_; rintro x w2 ⟨rfl, hm⟩; have S := Lib.hid (S.out.mv hm); clear hm; obtain ⟨c0, c1, c2, c3, c4, f0, f1, f2, f3, f4⟩ := S.out.seer; obtain ⟨d0, d1, d2, d3, d4, h0, h1, h2, h3, h4⟩ := S.out.tr.seer; have S := Lib.hid (S.out.set 0 (.int .i64 1)))
    | (go_at_call 62; with_reducible refine (HF1.out _ S.out.tr.sk).mono ?_; rintro x w3 ⟨rfl, hm⟩; have S := Lib.hid (S.out.mv hm); clear hm; obtain ⟨c0, c1, c2, c3, c4, f0, f1, f2, f3, f4⟩ := S.out.seer; obtain ⟨d0, d1, d2, d3, d4, h0, h1, h2, h3, h4⟩ := S.out.tr.seer; have S := Lib.hid (S.out.set 3 (.int .i64 a))))
  obtain ⟨W8, hW8⟩ : ∃ W8, W8 = w3.setCell ⟨q, 3, none⟩ (.int .i64 a) := ⟨_, rfl⟩
  rw [← hW8] at S
  rw [← hW8]
  clear hW8
  clear c0 c1 c2 c3 c4 f0 f1 f2 f3 f4 d0 d1 d2 d3 d4 h0 h1 h2 h3 h4
  obtain ⟨c0, c1, c2, c3, c4, f0, f1, f2, f3, f4⟩ := S.out.seer; obtain ⟨d0, d1, d2, d3, d4, h0, h1, h2, h3, h4⟩ := S.out.tr.seer
  go_wp2_with fail
  have F : Tr w (put16r W8 w.heap.size 1 0 0 a 0) g v k3 e3 w.heap.size #[.int .i64 1, .int .i64 0, .int .i64 0, .int .i64 a, .int .i64 0] 24 := S.out.tr.allr _ _ _ _ _
  show bodyPost _ _ _ _ _ (put16r W8 w.heap.size 1 0 0 a 0)
  generalize put16r W8 w.heap.size 1 0 0 a 0 = W9 at *
  obtain ⟨r0, r1, r2, r3, r4, -, -, -, -, -⟩ := F.seer
  refine bodyPost_ret (v := .agg #[.int .i64 1, .int .i64 0, .int .i64 0, .int .i64 a, .int .i64 0]) (by simp [results, Try.results57, go_sem, r0, r1, r2, r3, r4]) rfl ⟨rfl, F.sk, F.gb⟩
set_option maxHeartbeats 2000000 in
theorem tday_c (g k k1 k2 k3 : Nat) (e e3 : Int) (v : Value) (a : Int) (a0 : IntKind.i64.wrap a = a) (w : World) (hs : Sk Ts w g v k e)
    (HT1 : Hid (∀ w, Sk Ts w g v k e → Calls Try.prog 35 #[.pointer (some ⟨g, 0, none⟩), .int .u8 77] w fun x w' => x = .returned (.bool false) ∧ Mv Ts g v k1 e w w'))
    (HT2 : Hid (∀ w, Sk Ts w g v k1 e → Calls Try.prog 35 #[.pointer (some ⟨g, 0, none⟩), .int .u8 74] w fun x w' => x = .returned (.bool false) ∧ Mv Ts g v k2 e w w'))
    (HF1 : Hid (∀ w, Sk Ts w g v k2 e → Calls Try.prog 62 #[.pointer (some ⟨g, 0, none⟩), .int .i64 1, .int .i64 3] w fun x w' => x = .returned (.int .i64 a) ∧ Mv Ts g v k3 e3 w w'))
    : Calls Try.prog 57 #[.pointer (some ⟨g, 0, none⟩)] w fun x w' => x = .returned (.agg #[.int .i64 2, .int .i64 0, .int .i64 0, .int .i64 a, .int .i64 0]) ∧ Mv Ts g v k3 e3 w w' := by
  obtain ⟨W0, hW0⟩ : ∃ W0, W0 = w.alloc (.cells #[.int .i64 0, .int .i64 0, .int .i64 0, .int .i64 0, .int .i64 0] 24) := ⟨_, rfl⟩
  have S0 : Tr w W0 g v k e w.heap.size #[.int .i64 0, .int .i64 0, .int .i64 0, .int .i64 0, .int .i64 0] 24 := by rw [hW0]; exact Tr.new hs _ _
  have S := Lib.hid S0
  clear S0 hs
  obtain ⟨d0, d1, d2, d3, d4, h0, h1, h2, h3, h4⟩ := S.out.seer
  go_enter Try.func57, Try.ntmps57
  go_upto_region 1 with fail
  rw [← hW0]; clear hW0
  go_upto_region 3 with (go_at_call 35; with_reducible refine (HT1.out _ S.out.sk).mono ?_; rintro x w1 ⟨rfl, hm⟩; have S := Lib.hid (S.out.mv hm); clear hm)
  clear d0 d1 d2 d3 d4 h0 h1 h2 h3 h4
  go_upto_region 4 with fail
  have S1 := S.out.box #[.int .i64 2, .int .i64 0, .int .i64 0, .int .i64 0, .int .i64 0]
  obtain ⟨q, hq⟩ : ∃ q, q = w1.heap.size := ⟨_, rfl⟩
  obtain ⟨W1, hW1⟩ : ∃ W1, W1 = w1.alloc (.cells #[.int .i64 2, .int .i64 0, .int .i64 0, .int .i64 0, .int .i64 0] 24) := ⟨_, rfl⟩
  rw [← hW1, ← hq] at S1
  rw [← hW1, ← hq]
  clear hW1 hq
  replace S := Lib.hid S1
  clear S1
  obtain ⟨c0, c1, c2, c3, c4, f0, f1, f2, f3, f4⟩ := S.out.seer; obtain ⟨d0, d1, d2, d3, d4, h0, h1, h2, h3, h4⟩ := S.out.tr.seer
  go_upto_region 7 with (first
    | (go_at_call 35; with_reducible refine (HT2.out _ S.out.tr.sk).mono ?_; rintro x w2 ⟨rfl, hm⟩; have S := Lib.hid (S.out.mv hm); clear hm; obtain ⟨c0, c1, c2, c3, c4, f0, f1, f2, f3, f4⟩ := S.out.seer; obtain ⟨d0, d1, d2, d3, d4, h0, h1, h2, h3, h4⟩ := S.out.tr.seer)
    | (go_at_call 62; with_reducible refine (HF1.out _ S.out.tr.sk).mono ?_; rintro x w3 ⟨rfl, hm⟩; have S := Lib.hid (S.out.mv hm); clear hm; obtain ⟨c0, c1, c2, c3, c4, f0, f1, f2, f3, f4⟩ := S.out.seer; obtain ⟨d0, d1, d2, d3, d4, h0, h1, h2, h3, h4⟩ := S.out.tr.seer; have S := Lib.hid (S.out.set 3 (.int .i64 a))))
  obtain ⟨W8, hW8⟩ : ∃ W8, W8 = w3.setCell ⟨q, 3, none⟩ (.int .i64 a) := ⟨_, rfl⟩
  rw [← hW8] at S
  rw [← hW8]
  clear hW8
  clear c0 c1 c2 c3 c4 f0 f1 f2 f3 f4 d0 d1 d2 d3 d4 h0 h1 h2 h3 h4
  obtain ⟨c0, c1, c2, c3, c4, f0, f1, f2, f3, f4⟩ := S.out.seer; obtain ⟨d0, d1, d2, d3, d4, h0, h1, h2, h3, h4⟩ := S.out.tr.seer
  go_wp2_with fail
  have F : Tr w (put16r W8 w.heap.size 2 0 0 a 0) g v k3 e3 w.heap.size #[.int .i64 2, .int .i64 0, .int .i64 0, .int .i64 a, .int .i64 0] 24 := S.out.tr.allr _ _ _ _ _
  show bodyPost _ _ _ _ _ (put16r W8 w.heap.size 2 0 0 a 0)
  generalize put16r W8 w.heap.size 2 0 0 a 0 = W9 at *
  obtain ⟨r0, r1, r2, r3, r4, -, -, -, -, -⟩ := F.seer
  refine bodyPost_ret (v := .agg #[.int .i64 2, .int .i64 0, .int .i64 0, .int .i64 a, .int .i64 0]) (by simp [results, Try.results57, go_sem, r0, r1, r2, r3, r4]) rfl ⟨rfl, F.sk, F.gb⟩
end Go.Proofs.Ytkhcneacjnpcnaa
