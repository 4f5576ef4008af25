/- Merged: RulXp. -/
import Derived.Test.YtkhcneacjnpcnaaGPosixParses35
import Derived.LoopN
namespace Go.Proofs.Ytkhcneacjnpcnaa
open Go.RowKit
set_option linter.unusedVariables false
set_option linter.unusedSimpArgs false

set_option maxHeartbeats 4000000 in
theorem rpc_p_s0 (s : ByteArray) (most : Int) (w : World) (y1 : decide (most < 0) = false) (y2 : decide (999 < most) = false) (z0 : 0 < s.size) (z1 : ((s[0].toNat : Int) == 43) = true) (z2 : ((s[0].toNat : Int) == 45) = false) (a : List UInt8) (qs : List (List UInt8)) 
    (HP : Hid (∀ w, Calls Try.prog 32 #[.string (s.extract 1 s.size), .int .u8 58] w fun x w' => ∃ v, x = .returned v ∧ Os w' w.heap.size v (a :: qs) ∧ Below w.heap.size w w'))
    (N0 : Hid (∀ w, Calls Try.prog 33 #[.string ⟨a.toArray⟩, .int .i64 1, .int .i64 3] w fun e w' => e = .returned (.tuple #[.int .i64 0, .bool false]) ∧ w = w'))
    : Calls Try.prog 15 #[.string s, .int .i64 most] w fun x w' => x = .returned (.tuple #[.int .i64 (0), .int .i64 2]) ∧ Below w.heap.size w w' := by
  have z3 : decide (0 < s.size) = true := decide_eq_true z0
  go_enter Try.func15, Try.ntmps15
  go_wp2_with (first
    | (go_at_call 32; refine (HP.out _).mono ?_; rintro x w1 ⟨v, rfl, ho, hb⟩; obtain ⟨g, cc, rfl, -⟩ := ho.pos16 (by simp); have e0 : w1.cell? ⟨g, 0, none⟩ = some (.string ⟨a.toArray⟩) := ho.cell16 (j := 0) rfl; have B := Lib.hid hb; clear ho hb; obtain ⟨q, hq⟩ : ∃ q, q = (a :: qs).length := ⟨_, rfl⟩; rw [← hq]; have hq1 : 1 ≤ q := (by rw [hq]; simp); clear hq)
    | (go_at_call 33; with_reducible refine (N0.out _).mono ?_; rintro e w2 ⟨rfl, rfl⟩))
  go_ret2
  exact ⟨ret2_eq (int_eq (by omega)) rfl, B.out⟩
set_option maxHeartbeats 4000000 in
theorem rpc_p_s1 (s : ByteArray) (most : Int) (w : World) (y1 : decide (most < 0) = false) (y2 : decide (999 < most) = false) (z0 : 0 < s.size) (z1 : ((s[0].toNat : Int) == 43) = true) (z2 : ((s[0].toNat : Int) == 45) = false) (a b c d : List UInt8) (qs : List (List UInt8)) (h : Int) (hb : 0 ≤ h ∧ h < 100000)
    (HP : Hid (∀ w, Calls Try.prog 32 #[.string (s.extract 1 s.size), .int .u8 58] w fun x w' => ∃ v, x = .returned v ∧ Os w' w.heap.size v (a :: b :: c :: d :: qs) ∧ Below w.heap.size w w'))
    (N0 : Hid (∀ w, Calls Try.prog 33 #[.string ⟨a.toArray⟩, .int .i64 1, .int .i64 3] w fun e w' => e = .returned (.tuple #[.int .i64 h, .bool true]) ∧ w = w'))
    : Calls Try.prog 15 #[.string s, .int .i64 most] w fun x w' => x = .returned (.tuple #[.int .i64 (0), .int .i64 2]) ∧ Below w.heap.size w w' := by
  have z3 : decide (0 < s.size) = true := decide_eq_true z0
  go_enter Try.func15, Try.ntmps15
  go_wp2_with (first
    | (go_at_call 32; refine (HP.out _).mono ?_; rintro x w1 ⟨v, rfl, ho, hb⟩; obtain ⟨g, cc, rfl, -⟩ := ho.pos16 (by simp); have e0 : w1.cell? ⟨g, 0, none⟩ = some (.string ⟨a.toArray⟩) := ho.cell16 (j := 0) rfl; have B := Lib.hid hb; clear ho hb; obtain ⟨q, hq⟩ : ∃ q, q = (a :: b :: c :: d :: qs).length := ⟨_, rfl⟩; rw [← hq]; have hq1 : 4 ≤ q := (by rw [hq]; simp); have hq2 : decide (3 < q) = true := decide_eq_true hq1; clear hq)
    | (go_at_call 33; with_reducible refine (N0.out _).mono ?_; rintro e w2 ⟨rfl, rfl⟩))
  go_ret2
  exact ⟨ret2_eq (int_eq (by omega)) rfl, B.out⟩
set_option maxHeartbeats 4000000 in
theorem rpc_p_s2t (s : ByteArray) (most : Int) (w : World) (y1 : decide (most < 0) = false) (y2 : decide (999 < most) = false) (z0 : 0 < s.size) (z1 : ((s[0].toNat : Int) == 43) = true) (z2 : ((s[0].toNat : Int) == 45) = false) (a : List UInt8) (h : Int) (hb : 0 ≤ h ∧ h < 100000)
    (f0 : decide (most < h) = true)
    (HP : Hid (∀ w, Calls Try.prog 32 #[.string (s.extract 1 s.size), .int .u8 58] w fun x w' => ∃ v, x = .returned v ∧ Os w' w.heap.size v [a] ∧ Below w.heap.size w w'))
    (N0 : Hid (∀ w, Calls Try.prog 33 #[.string ⟨a.toArray⟩, .int .i64 1, .int .i64 3] w fun e w' => e = .returned (.tuple #[.int .i64 h, .bool true]) ∧ w = w'))
    : Calls Try.prog 15 #[.string s, .int .i64 most] w fun x w' => x = .returned (.tuple #[.int .i64 (0), .int .i64 1]) ∧ Below w.heap.size w w' := by
  have z3 : decide (0 < s.size) = true := decide_eq_true z0
  go_enter Try.func15, Try.ntmps15
  go_wp2_with (first
    | (go_at_call 32; refine (HP.out _).mono ?_; rintro x w1 ⟨v, rfl, ho, hb⟩; obtain ⟨g, cc, rfl, -⟩ := ho.pos16 (by simp); have e0 : w1.cell? ⟨g, 0, none⟩ = some (.string ⟨a.toArray⟩) := ho.cell16 (j := 0) rfl; have B := Lib.hid hb; clear ho hb)
    | (go_at_call 33; with_reducible refine (N0.out _).mono ?_; rintro e w2 ⟨rfl, rfl⟩))
  refine wp_loop_rounds 1 ?_
  rw [rounds_succ]
  go_wp2_with (first
    | (go_at_call 32; refine (HP.out _).mono ?_; rintro x w1 ⟨v, rfl, ho, hb⟩; obtain ⟨g, cc, rfl, -⟩ := ho.pos16 (by simp); have e0 : w1.cell? ⟨g, 0, none⟩ = some (.string ⟨a.toArray⟩) := ho.cell16 (j := 0) rfl; have B := Lib.hid hb; clear ho hb)
    | (go_at_call 33; with_reducible refine (N0.out _).mono ?_; rintro e w2 ⟨rfl, rfl⟩))
  go_ret2
  exact ⟨ret2_eq (int_eq (by omega)) rfl, B.out⟩
set_option maxHeartbeats 4000000 in
theorem rpc_p_s2f (s : ByteArray) (most : Int) (w : World) (y1 : decide (most < 0) = false) (y2 : decide (999 < most) = false) (z0 : 0 < s.size) (z1 : ((s[0].toNat : Int) == 43) = true) (z2 : ((s[0].toNat : Int) == 45) = false) (a : List UInt8) (h : Int) (hb : 0 ≤ h ∧ h < 100000)
    (f0 : decide (most < h) = false)
    (HP : Hid (∀ w, Calls Try.prog 32 #[.string (s.extract 1 s.size), .int .u8 58] w fun x w' => ∃ v, x = .returned v ∧ Os w' w.heap.size v [a] ∧ Below w.heap.size w w'))
    (N0 : Hid (∀ w, Calls Try.prog 33 #[.string ⟨a.toArray⟩, .int .i64 1, .int .i64 3] w fun e w' => e = .returned (.tuple #[.int .i64 h, .bool true]) ∧ w = w'))
    : Calls Try.prog 15 #[.string s, .int .i64 most] w fun x w' => x = .returned (.tuple #[.int .i64 (3600 * h), .int .i64 0]) ∧ Below w.heap.size w w' := by
  have z3 : decide (0 < s.size) = true := decide_eq_true z0
  go_enter Try.func15, Try.ntmps15
  go_wp2_with (first
    | (go_at_call 32; refine (HP.out _).mono ?_; rintro x w1 ⟨v, rfl, ho, hb⟩; obtain ⟨g, cc, rfl, -⟩ := ho.pos16 (by simp); have e0 : w1.cell? ⟨g, 0, none⟩ = some (.string ⟨a.toArray⟩) := ho.cell16 (j := 0) rfl; have B := Lib.hid hb; clear ho hb)
    | (go_at_call 33; with_reducible refine (N0.out _).mono ?_; rintro e w2 ⟨rfl, rfl⟩))
  refine wp_loop_rounds 1 ?_
  rw [rounds_succ]
  go_wp2_with (first
    | (go_at_call 32; refine (HP.out _).mono ?_; rintro x w1 ⟨v, rfl, ho, hb⟩; obtain ⟨g, cc, rfl, -⟩ := ho.pos16 (by simp); have e0 : w1.cell? ⟨g, 0, none⟩ = some (.string ⟨a.toArray⟩) := ho.cell16 (j := 0) rfl; have B := Lib.hid hb; clear ho hb)
    | (go_at_call 33; with_reducible refine (N0.out _).mono ?_; rintro e w2 ⟨rfl, rfl⟩))
  go_ret2
  exact ⟨ret2_eq (int_eq (by omega)) rfl, B.out⟩
set_option maxHeartbeats 4000000 in
theorem rpc_p_s3 (s : ByteArray) (most : Int) (w : World) (y1 : decide (most < 0) = false) (y2 : decide (999 < most) = false) (z0 : 0 < s.size) (z1 : ((s[0].toNat : Int) == 43) = true) (z2 : ((s[0].toNat : Int) == 45) = false) (a b : List UInt8) (h : Int) (hb : 0 ≤ h ∧ h < 100000)
    (HP : Hid (∀ w, Calls Try.prog 32 #[.string (s.extract 1 s.size), .int .u8 58] w fun x w' => ∃ v, x = .returned v ∧ Os w' w.heap.size v [a, b] ∧ Below w.heap.size w w'))
    (N0 : Hid (∀ w, Calls Try.prog 33 #[.string ⟨a.toArray⟩, .int .i64 1, .int .i64 3] w fun e w' => e = .returned (.tuple #[.int .i64 h, .bool true]) ∧ w = w'))
    (N1 : Hid (∀ w, Calls Try.prog 33 #[.string ⟨b.toArray⟩, .int .i64 2, .int .i64 2] w fun e w' => e = .returned (.tuple #[.int .i64 0, .bool false]) ∧ w = w'))
    : Calls Try.prog 15 #[.string s, .int .i64 most] w fun x w' => x = .returned (.tuple #[.int .i64 (0), .int .i64 2]) ∧ Below w.heap.size w w' := by
  have z3 : decide (0 < s.size) = true := decide_eq_true z0
  go_enter Try.func15, Try.ntmps15
  go_wp2_with (first
    | (go_at_call 32; refine (HP.out _).mono ?_; rintro x w1 ⟨v, rfl, ho, hb⟩; obtain ⟨g, cc, rfl, -⟩ := ho.pos16 (by simp); have e0 : w1.cell? ⟨g, 0, none⟩ = some (.string ⟨a.toArray⟩) := ho.cell16 (j := 0) rfl; have e1 : w1.cell? ⟨g, 1, none⟩ = some (.string ⟨b.toArray⟩) := ho.cell16 (j := 1) rfl; have B := Lib.hid hb; clear ho hb)
    | (go_at_call 33; with_reducible refine (N0.out _).mono ?_; rintro e w2 ⟨rfl, rfl⟩)
    | (go_at_call 33; with_reducible refine (N1.out _).mono ?_; rintro e w2 ⟨rfl, rfl⟩))
  refine wp_loop_rounds 1 ?_
  rw [rounds_succ]
  go_wp2_with (first
    | (go_at_call 32; refine (HP.out _).mono ?_; rintro x w1 ⟨v, rfl, ho, hb⟩; obtain ⟨g, cc, rfl, -⟩ := ho.pos16 (by simp); have e0 : w1.cell? ⟨g, 0, none⟩ = some (.string ⟨a.toArray⟩) := ho.cell16 (j := 0) rfl; have e1 : w1.cell? ⟨g, 1, none⟩ = some (.string ⟨b.toArray⟩) := ho.cell16 (j := 1) rfl; have B := Lib.hid hb; clear ho hb)
    | (go_at_call 33; with_reducible refine (N0.out _).mono ?_; rintro e w2 ⟨rfl, rfl⟩)
    | (go_at_call 33; with_reducible refine (N1.out _).mono ?_; rintro e w2 ⟨rfl, rfl⟩))
  go_ret2
  exact ⟨ret2_eq (int_eq (by omega)) rfl, B.out⟩
set_option maxHeartbeats 4000000 in
theorem rpc_p_s4t (s : ByteArray) (most : Int) (w : World) (y1 : decide (most < 0) = false) (y2 : decide (999 < most) = false) (z0 : 0 < s.size) (z1 : ((s[0].toNat : Int) == 43) = true) (z2 : ((s[0].toNat : Int) == 45) = false) (a b : List UInt8) (h m : Int) (hb : 0 ≤ h ∧ h < 100000) (mb : 0 ≤ m ∧ m < 100000)
    (f0 : decide (most < h) = true)
    (HP : Hid (∀ w, Calls Try.prog 32 #[.string (s.extract 1 s.size), .int .u8 58] w fun x w' => ∃ v, x = .returned v ∧ Os w' w.heap.size v [a, b] ∧ Below w.heap.size w w'))
    (N0 : Hid (∀ w, Calls Try.prog 33 #[.string ⟨a.toArray⟩, .int .i64 1, .int .i64 3] w fun e w' => e = .returned (.tuple #[.int .i64 h, .bool true]) ∧ w = w'))
    (N1 : Hid (∀ w, Calls Try.prog 33 #[.string ⟨b.toArray⟩, .int .i64 2, .int .i64 2] w fun e w' => e = .returned (.tuple #[.int .i64 m, .bool true]) ∧ w = w'))
    : Calls Try.prog 15 #[.string s, .int .i64 most] w fun x w' => x = .returned (.tuple #[.int .i64 (0), .int .i64 1]) ∧ Below w.heap.size w w' := by
  have z3 : decide (0 < s.size) = true := decide_eq_true z0
  go_enter Try.func15, Try.ntmps15
  go_wp2_with (first
    | (go_at_call 32; refine (HP.out _).mono ?_; rintro x w1 ⟨v, rfl, ho, hb⟩; obtain ⟨g, cc, rfl, -⟩ := ho.pos16 (by simp); have e0 : w1.cell? ⟨g, 0, none⟩ = some (.string ⟨a.toArray⟩) := ho.cell16 (j := 0) rfl; have e1 : w1.cell? ⟨g, 1, none⟩ = some (.string ⟨b.toArray⟩) := ho.cell16 (j := 1) rfl; have B := Lib.hid hb; clear ho hb)
    | (go_at_call 33; with_reducible refine (N0.out _).mono ?_; rintro e w2 ⟨rfl, rfl⟩)
    | (go_at_call 33; with_reducible refine (N1.out _).mono ?_; rintro e w2 ⟨rfl, rfl⟩))
  refine wp_loop_rounds 2 ?_
  rw [rounds_succ]
  go_wp2_with (first
    | (go_at_call 32; refine (HP.out _).mono ?_; rintro x w1 ⟨v, rfl, ho, hb⟩; obtain ⟨g, cc, rfl, -⟩ := ho.pos16 (by simp); have e0 : w1.cell? ⟨g, 0, none⟩ = some (.string ⟨a.toArray⟩) := ho.cell16 (j := 0) rfl; have e1 : w1.cell? ⟨g, 1, none⟩ = some (.string ⟨b.toArray⟩) := ho.cell16 (j := 1) rfl; have B := Lib.hid hb; clear ho hb)
    | (go_at_call 33; with_reducible refine (N0.out _).mono ?_; rintro e w2 ⟨rfl, rfl⟩)
    | (go_at_call 33; with_reducible refine (N1.out _).mono ?_; rintro e w2 ⟨rfl, rfl⟩))
  rw [rounds_succ]
  go_wp2_with (first
    | (go_at_call 32; refine (HP.out _).mono ?_; rintro x w1 ⟨v, rfl, ho, hb⟩; obtain ⟨g, cc, rfl, -⟩ := ho.pos16 (by simp); have e0 : w1.cell? ⟨g, 0, none⟩ = some (.string ⟨a.toArray⟩) := ho.cell16 (j := 0) rfl; have e1 : w1.cell? ⟨g, 1, none⟩ = some (.string ⟨b.toArray⟩) := ho.cell16 (j := 1) rfl; have B := Lib.hid hb; clear ho hb)
    | (go_at_call 33; with_reducible refine (N0.out _).mono ?_; rintro e w2 ⟨rfl, rfl⟩)
    | (go_at_call 33; with_reducible refine (N1.out _).mono ?_; rintro e w2 ⟨rfl, rfl⟩))
  go_ret2
  exact ⟨ret2_eq (int_eq (by omega)) rfl, B.out⟩
set_option maxHeartbeats 4000000 in
theorem rpc_p_s4ft (s : ByteArray) (most : Int) (w : World) (y1 : decide (most < 0) = false) (y2 : decide (999 < most) = false) (z0 : 0 < s.size) (z1 : ((s[0].toNat : Int) == 43) = true) (z2 : ((s[0].toNat : Int) == 45) = false) (a b : List UInt8) (h m : Int) (hb : 0 ≤ h ∧ h < 100000) (mb : 0 ≤ m ∧ m < 100000)
    (f0 : decide (most < h) = false)
    (f1 : decide (59 < m) = true)
    (HP : Hid (∀ w, Calls Try.prog 32 #[.string (s.extract 1 s.size), .int .u8 58] w fun x w' => ∃ v, x = .returned v ∧ Os w' w.heap.size v [a, b] ∧ Below w.heap.size w w'))
    (N0 : Hid (∀ w, Calls Try.prog 33 #[.string ⟨a.toArray⟩, .int .i64 1, .int .i64 3] w fun e w' => e = .returned (.tuple #[.int .i64 h, .bool true]) ∧ w = w'))
    (N1 : Hid (∀ w, Calls Try.prog 33 #[.string ⟨b.toArray⟩, .int .i64 2, .int .i64 2] w fun e w' => e = .returned (.tuple #[.int .i64 m, .bool true]) ∧ w = w'))
    : Calls Try.prog 15 #[.string s, .int .i64 most] w fun x w' => x = .returned (.tuple #[.int .i64 (0), .int .i64 1]) ∧ Below w.heap.size w w' := by
  have z3 : decide (0 < s.size) = true := decide_eq_true z0
  go_enter Try.func15, Try.ntmps15
  go_wp2_with (first
    | (go_at_call 32; refine (HP.out _).mono ?_; rintro x w1 ⟨v, rfl, ho, hb⟩; obtain ⟨g, cc, rfl, -⟩ := ho.pos16 (by simp); have e0 : w1.cell? ⟨g, 0, none⟩ = some (.string ⟨a.toArray⟩) := ho.cell16 (j := 0) rfl; have e1 : w1.cell? ⟨g, 1, none⟩ = some (.string ⟨b.toArray⟩) := ho.cell16 (j := 1) rfl; have B := Lib.hid hb; clear ho hb)
    | (go_at_call 33; with_reducible refine (N0.out _).mono ?_; rintro e w2 ⟨rfl, rfl⟩)
    | (go_at_call 33; with_reducible refine (N1.out _).mono ?_; rintro e w2 ⟨rfl, rfl⟩))
  refine wp_loop_rounds 2 ?_
  rw [rounds_succ]
  go_wp2_with (first
    | (go_at_call 32; refine (HP.out _).mono ?_; rintro x w1 ⟨v, rfl, ho, hb⟩; obtain ⟨g, cc, rfl, -⟩ := ho.pos16 (by simp); have e0 : w1.cell? ⟨g, 0, none⟩ = some (.string ⟨a.toArray⟩) := ho.cell16 (j := 0) rfl; have e1 : w1.cell? ⟨g, 1, none⟩ = some (.string ⟨b.toArray⟩) := ho.cell16 (j := 1) rfl; have B := Lib.hid hb; clear ho hb)
    | (go_at_call 33; with_reducible refine (N0.out _).mono ?_; rintro e w2 ⟨rfl, rfl⟩)
    | (go_at_call 33; with_reducible refine (N1.out _).mono ?_; rintro e w2 ⟨rfl, rfl⟩))
  rw [rounds_succ]
  go_wp2_with (first
    | (go_at_call 32; refine (HP.out _).mono ?_; rintro x w1 ⟨v, rfl, ho, hb⟩; obtain ⟨g, cc, rfl, -⟩ := ho.pos16 (by simp); have e0 : w1.cell? ⟨g, 0, none⟩ = some (.string ⟨a.toArray⟩) := ho.cell16 (j := 0) rfl; have e1 : w1.cell? ⟨g, 1, none⟩ = some (.string ⟨b.toArray⟩) := ho.cell16 (j := 1) rfl; have B := Lib.hid hb; clear ho hb)
    | (go_at_call 33; with_reducible refine (N0.out _).mono ?_; rintro e w2 ⟨rfl, rfl⟩)
    | (go_at_call 33; with_reducible refine (N1.out _).mono ?_; rintro e w2 ⟨rfl, rfl⟩))
  go_ret2
  exact ⟨ret2_eq (int_eq (by omega)) rfl, B.out⟩
set_option maxHeartbeats 4000000 in
theorem rpc_p_s4ff (s : ByteArray) (most : Int) (w : World) (y1 : decide (most < 0) = false) (y2 : decide (999 < most) = false) (z0 : 0 < s.size) (z1 : ((s[0].toNat : Int) == 43) = true) (z2 : ((s[0].toNat : Int) == 45) = false) (a b : List UInt8) (h m : Int) (hb : 0 ≤ h ∧ h < 100000) (mb : 0 ≤ m ∧ m < 100000)
    (f0 : decide (most < h) = false)
    (f1 : decide (59 < m) = false)
    (HP : Hid (∀ w, Calls Try.prog 32 #[.string (s.extract 1 s.size), .int .u8 58] w fun x w' => ∃ v, x = .returned v ∧ Os w' w.heap.size v [a, b] ∧ Below w.heap.size w w'))
    (N0 : Hid (∀ w, Calls Try.prog 33 #[.string ⟨a.toArray⟩, .int .i64 1, .int .i64 3] w fun e w' => e = .returned (.tuple #[.int .i64 h, .bool true]) ∧ w = w'))
    (N1 : Hid (∀ w, Calls Try.prog 33 #[.string ⟨b.toArray⟩, .int .i64 2, .int .i64 2] w fun e w' => e = .returned (.tuple #[.int .i64 m, .bool true]) ∧ w = w'))
    : Calls Try.prog 15 #[.string s, .int .i64 most] w fun x w' => x = .returned (.tuple #[.int .i64 (3600 * h + 60 * m), .int .i64 0]) ∧ Below w.heap.size w w' := by
  have z3 : decide (0 < s.size) = true := decide_eq_true z0
  go_enter Try.func15, Try.ntmps15
  go_wp2_with (first
    | (go_at_call 32; refine (HP.out _).mono ?_; rintro x w1 ⟨v, rfl, ho, hb⟩; obtain ⟨g, cc, rfl, -⟩ := ho.pos16 (by simp); have e0 : w1.cell? ⟨g, 0, none⟩ = some (.string ⟨a.toArray⟩) := ho.cell16 (j := 0) rfl; have e1 : w1.cell? ⟨g, 1, none⟩ = some (.string ⟨b.toArray⟩) := ho.cell16 (j := 1) rfl; have B := Lib.hid hb; clear ho hb)
    | (go_at_call 33; with_reducible refine (N0.out _).mono ?_; rintro e w2 ⟨rfl, rfl⟩)
    | (go_at_call 33; with_reducible refine (N1.out _).mono ?_; rintro e w2 ⟨rfl, rfl⟩))
  refine wp_loop_rounds 2 ?_
  rw [rounds_succ]
  go_wp2_with (first
    | (go_at_call 32; refine (HP.out _).mono ?_; rintro x w1 ⟨v, rfl, ho, hb⟩; obtain ⟨g, cc, rfl, -⟩ := ho.pos16 (by simp); have e0 : w1.cell? ⟨g, 0, none⟩ = some (.string ⟨a.toArray⟩) := ho.cell16 (j := 0) rfl; have e1 : w1.cell? ⟨g, 1, none⟩ = some (.string ⟨b.toArray⟩) := ho.cell16 (j := 1) rfl; have B := Lib.hid hb; clear ho hb)
    | (go_at_call 33; with_reducible refine (N0.out _).mono ?_; rintro e w2 ⟨rfl, rfl⟩)
    | (go_at_call 33; with_reducible refine (N1.out _).mono ?_; rintro e w2 ⟨rfl, rfl⟩))
  rw [rounds_succ]
  go_wp2_with (first
    | (go_at_call 32; refine (HP.out _).mono ?_; rintro x w1 ⟨v, rfl, ho, hb⟩; obtain ⟨g, cc, rfl, -⟩ := ho.pos16 (by simp); have e0 : w1.cell? ⟨g, 0, none⟩ = some (.string ⟨a.toArray⟩) := ho.cell16 (j := 0) rfl; have e1 : w1.cell? ⟨g, 1, none⟩ = some (.string ⟨b.toArray⟩) := ho.cell16 (j := 1) rfl; have B := Lib.hid hb; clear ho hb)
    | (go_at_call 33; with_reducible refine (N0.out _).mono ?_; rintro e w2 ⟨rfl, rfl⟩)
    | (go_at_call 33; with_reducible refine (N1.out _).mono ?_; rintro e w2 ⟨rfl, rfl⟩))
  go_ret2
  exact ⟨ret2_eq (int_eq (by omega)) rfl, B.out⟩
set_option maxHeartbeats 4000000 in
theorem rpc_p_s5 (s : ByteArray) (most : Int) (w : World) (y1 : decide (most < 0) = false) (y2 : decide (999 < most) = false) (z0 : 0 < s.size) (z1 : ((s[0].toNat : Int) == 43) = true) (z2 : ((s[0].toNat : Int) == 45) = false) (a b c : List UInt8) (h : Int) (hb : 0 ≤ h ∧ h < 100000)
    (HP : Hid (∀ w, Calls Try.prog 32 #[.string (s.extract 1 s.size), .int .u8 58] w fun x w' => ∃ v, x = .returned v ∧ Os w' w.heap.size v [a, b, c] ∧ Below w.heap.size w w'))
    (N0 : Hid (∀ w, Calls Try.prog 33 #[.string ⟨a.toArray⟩, .int .i64 1, .int .i64 3] w fun e w' => e = .returned (.tuple #[.int .i64 h, .bool true]) ∧ w = w'))
    (N1 : Hid (∀ w, Calls Try.prog 33 #[.string ⟨b.toArray⟩, .int .i64 2, .int .i64 2] w fun e w' => e = .returned (.tuple #[.int .i64 0, .bool false]) ∧ w = w'))
    : Calls Try.prog 15 #[.string s, .int .i64 most] w fun x w' => x = .returned (.tuple #[.int .i64 (0), .int .i64 2]) ∧ Below w.heap.size w w' := by
  have z3 : decide (0 < s.size) = true := decide_eq_true z0
  go_enter Try.func15, Try.ntmps15
  go_wp2_with (first
    | (go_at_call 32; refine (HP.out _).mono ?_; rintro x w1 ⟨v, rfl, ho, hb⟩; obtain ⟨g, cc, rfl, -⟩ := ho.pos16 (by simp); have e0 : w1.cell? ⟨g, 0, none⟩ = some (.string ⟨a.toArray⟩) := ho.cell16 (j := 0) rfl; have e1 : w1.cell? ⟨g, 1, none⟩ = some (.string ⟨b.toArray⟩) := ho.cell16 (j := 1) rfl; have B := Lib.hid hb; clear ho hb)
    | (go_at_call 33; with_reducible refine (N0.out _).mono ?_; rintro e w2 ⟨rfl, rfl⟩)
    | (go_at_call 33; with_reducible refine (N1.out _).mono ?_; rintro e w2 ⟨rfl, rfl⟩))
  refine wp_loop_rounds 1 ?_
  rw [rounds_succ]
  go_wp2_with (first
    | (go_at_call 32; refine (HP.out _).mono ?_; rintro x w1 ⟨v, rfl, ho, hb⟩; obtain ⟨g, cc, rfl, -⟩ := ho.pos16 (by simp); have e0 : w1.cell? ⟨g, 0, none⟩ = some (.string ⟨a.toArray⟩) := ho.cell16 (j := 0) rfl; have e1 : w1.cell? ⟨g, 1, none⟩ = some (.string ⟨b.toArray⟩) := ho.cell16 (j := 1) rfl; have B := Lib.hid hb; clear ho hb)
    | (go_at_call 33; with_reducible refine (N0.out _).mono ?_; rintro e w2 ⟨rfl, rfl⟩)
    | (go_at_call 33; with_reducible refine (N1.out _).mono ?_; rintro e w2 ⟨rfl, rfl⟩))
  go_ret2
  exact ⟨ret2_eq (int_eq (by omega)) rfl, B.out⟩
set_option maxHeartbeats 4000000 in
theorem rpc_p_s6t (s : ByteArray) (most : Int) (w : World) (y1 : decide (most < 0) = false) (y2 : decide (999 < most) = false) (z0 : 0 < s.size) (z1 : ((s[0].toNat : Int) == 43) = true) (z2 : ((s[0].toNat : Int) == 45) = false) (a b c : List UInt8) (h m : Int) (hb : 0 ≤ h ∧ h < 100000) (mb : 0 ≤ m ∧ m < 100000)
    (f0 : decide (most < h) = true)
    (HP : Hid (∀ w, Calls Try.prog 32 #[.string (s.extract 1 s.size), .int .u8 58] w fun x w' => ∃ v, x = .returned v ∧ Os w' w.heap.size v [a, b, c] ∧ Below w.heap.size w w'))
    (N0 : Hid (∀ w, Calls Try.prog 33 #[.string ⟨a.toArray⟩, .int .i64 1, .int .i64 3] w fun e w' => e = .returned (.tuple #[.int .i64 h, .bool true]) ∧ w = w'))
    (N1 : Hid (∀ w, Calls Try.prog 33 #[.string ⟨b.toArray⟩, .int .i64 2, .int .i64 2] w fun e w' => e = .returned (.tuple #[.int .i64 m, .bool true]) ∧ w = w'))
    (N2 : Hid (∀ w, Calls Try.prog 33 #[.string ⟨c.toArray⟩, .int .i64 2, .int .i64 2] w fun e w' => e = .returned (.tuple #[.int .i64 0, .bool false]) ∧ w = w'))
    : Calls Try.prog 15 #[.string s, .int .i64 most] w fun x w' => x = .returned (.tuple #[.int .i64 (0), .int .i64 2]) ∧ Below w.heap.size w w' := by
  have z3 : decide (0 < s.size) = true := decide_eq_true z0
  go_enter Try.func15, Try.ntmps15
  go_wp2_with (first
    | (go_at_call 32; refine (HP.out _).mono ?_; rintro x w1 ⟨v, rfl, ho, hb⟩; obtain ⟨g, cc, rfl, -⟩ := ho.pos16 (by simp); have e0 : w1.cell? ⟨g, 0, none⟩ = some (.string ⟨a.toArray⟩) := ho.cell16 (j := 0) rfl; have e1 : w1.cell? ⟨g, 1, none⟩ = some (.string ⟨b.toArray⟩) := ho.cell16 (j := 1) rfl; have e2 : w1.cell? ⟨g, 2, none⟩ = some (.string ⟨c.toArray⟩) := ho.cell16 (j := 2) rfl; have B := Lib.hid hb; clear ho hb)
    | (go_at_call 33; with_reducible refine (N0.out _).mono ?_; rintro e w2 ⟨rfl, rfl⟩)
    | (go_at_call 33; with_reducible refine (N1.out _).mono ?_; rintro e w2 ⟨rfl, rfl⟩)
    | (go_at_call 33; with_reducible refine (N2.out _).mono ?_; rintro e w2 ⟨rfl, rfl⟩))
  refine wp_loop_rounds 2 ?_
  rw [rounds_succ]
  go_wp2_with (first
    | (go_at_call 32; refine (HP.out _).mono ?_; rintro x w1 ⟨v, rfl, ho, hb⟩; obtain ⟨g, cc, rfl, -⟩ := ho.pos16 (by simp); have e0 : w1.cell? ⟨g, 0, none⟩ = some (.string ⟨a.toArray⟩) := ho.cell16 (j := 0) rfl; have e1 : w1.cell? ⟨g, 1, none⟩ = some (.string ⟨b.toArray⟩) := ho.cell16 (j := 1) rfl; have e2 : w1.cell? ⟨g, 2, none⟩ = some (.string ⟨c.toArray⟩) := ho.cell16 (j := 2) rfl; have B := Lib.hid hb; clear ho hb)
    | (go_at_call 33; with_reducible refine (N0.out _).mono ?_; rintro e w2 ⟨rfl, rfl⟩)
    | (go_at_call 33; with_reducible refine (N1.out _).mono ?_; rintro e w2 ⟨rfl, rfl⟩)
    | (go_at_call 33; with_reducible refine (N2.out _).mono ?_; rintro e w2 ⟨rfl, rfl⟩))
  rw [rounds_succ]
  go_wp2_with (first
    | (go_at_call 32; refine (HP.out _).mono ?_; rintro x w1 ⟨v, rfl, ho, hb⟩; obtain ⟨g, cc, rfl, -⟩ := ho.pos16 (by simp); have e0 : w1.cell? ⟨g, 0, none⟩ = some (.string ⟨a.toArray⟩) := ho.cell16 (j := 0) rfl; have e1 : w1.cell? ⟨g, 1, none⟩ = some (.string ⟨b.toArray⟩) := ho.cell16 (j := 1) rfl; have e2 : w1.cell? ⟨g, 2, none⟩ = some (.string ⟨c.toArray⟩) := ho.cell16 (j := 2) rfl; have B := Lib.hid hb; clear ho hb)
    | (go_at_call 33; with_reducible refine (N0.out _).mono ?_; rintro e w2 ⟨rfl, rfl⟩)
    | (go_at_call 33; with_reducible refine (N1.out _).mono ?_; rintro e w2 ⟨rfl, rfl⟩)
    | (go_at_call 33; with_reducible refine (N2.out _).mono ?_; rintro e w2 ⟨rfl, rfl⟩))
  go_ret2
  exact ⟨ret2_eq (int_eq (by omega)) rfl, B.out⟩
set_option maxHeartbeats 4000000 in
theorem rpc_p_s6f (s : ByteArray) (most : Int) (w : World) (y1 : decide (most < 0) = false) (y2 : decide (999 < most) = false) (z0 : 0 < s.size) (z1 : ((s[0].toNat : Int) == 43) = true) (z2 : ((s[0].toNat : Int) == 45) = false) (a b c : List UInt8) (h m : Int) (hb : 0 ≤ h ∧ h < 100000) (mb : 0 ≤ m ∧ m < 100000)
    (f0 : decide (most < h) = false)
    (HP : Hid (∀ w, Calls Try.prog 32 #[.string (s.extract 1 s.size), .int .u8 58] w fun x w' => ∃ v, x = .returned v ∧ Os w' w.heap.size v [a, b, c] ∧ Below w.heap.size w w'))
    (N0 : Hid (∀ w, Calls Try.prog 33 #[.string ⟨a.toArray⟩, .int .i64 1, .int .i64 3] w fun e w' => e = .returned (.tuple #[.int .i64 h, .bool true]) ∧ w = w'))
    (N1 : Hid (∀ w, Calls Try.prog 33 #[.string ⟨b.toArray⟩, .int .i64 2, .int .i64 2] w fun e w' => e = .returned (.tuple #[.int .i64 m, .bool true]) ∧ w = w'))
    (N2 : Hid (∀ w, Calls Try.prog 33 #[.string ⟨c.toArray⟩, .int .i64 2, .int .i64 2] w fun e w' => e = .returned (.tuple #[.int .i64 0, .bool false]) ∧ w = w'))
    : Calls Try.prog 15 #[.string s, .int .i64 most] w fun x w' => x = .returned (.tuple #[.int .i64 (0), .int .i64 2]) ∧ Below w.heap.size w w' := by
  have z3 : decide (0 < s.size) = true := decide_eq_true z0
  go_enter Try.func15, Try.ntmps15
  go_wp2_with (first
    | (go_at_call 32; refine (HP.out _).mono ?_; rintro x w1 ⟨v, rfl, ho, hb⟩; obtain ⟨g, cc, rfl, -⟩ := ho.pos16 (by simp); have e0 : w1.cell? ⟨g, 0, none⟩ = some (.string ⟨a.toArray⟩) := ho.cell16 (j := 0) rfl; have e1 : w1.cell? ⟨g, 1, none⟩ = some (.string ⟨b.toArray⟩) := ho.cell16 (j := 1) rfl; have e2 : w1.cell? ⟨g, 2, none⟩ = some (.string ⟨c.toArray⟩) := ho.cell16 (j := 2) rfl; have B := Lib.hid hb; clear ho hb)
    | (go_at_call 33; with_reducible refine (N0.out _).mono ?_; rintro e w2 ⟨rfl, rfl⟩)
    | (go_at_call 33; with_reducible refine (N1.out _).mono ?_; rintro e w2 ⟨rfl, rfl⟩)
    | (go_at_call 33; with_reducible refine (N2.out _).mono ?_; rintro e w2 ⟨rfl, rfl⟩))
  refine wp_loop_rounds 2 ?_
  rw [rounds_succ]
  go_wp2_with (first
    | (go_at_call 32; refine (HP.out _).mono ?_; rintro x w1 ⟨v, rfl, ho, hb⟩; obtain ⟨g, cc, rfl, -⟩ := ho.pos16 (by simp); have e0 : w1.cell? ⟨g, 0, none⟩ = some (.string ⟨a.toArray⟩) := ho.cell16 (j := 0) rfl; have e1 : w1.cell? ⟨g, 1, none⟩ = some (.string ⟨b.toArray⟩) := ho.cell16 (j := 1) rfl; have e2 : w1.cell? ⟨g, 2, none⟩ = some (.string ⟨c.toArray⟩) := ho.cell16 (j := 2) rfl; have B := Lib.hid hb; clear ho hb)
    | (go_at_call 33; with_reducible refine (N0.out _).mono ?_; rintro e w2 ⟨rfl, rfl⟩)
    | (go_at_call 33; with_reducible refine (N1.out _).mono ?_; rintro e w2 ⟨rfl, rfl⟩)
    | (go_at_call 33; with_reducible refine (N2.out _).mono ?_; rintro e w2 ⟨rfl, rfl⟩))
  rw [rounds_succ]
  go_wp2_with (first
    | (go_at_call 32; refine (HP.out _).mono ?_; rintro x w1 ⟨v, rfl, ho, hb⟩; obtain ⟨g, cc, rfl, -⟩ := ho.pos16 (by simp); have e0 : w1.cell? ⟨g, 0, none⟩ = some (.string ⟨a.toArray⟩) := ho.cell16 (j := 0) rfl; have e1 : w1.cell? ⟨g, 1, none⟩ = some (.string ⟨b.toArray⟩) := ho.cell16 (j := 1) rfl; have e2 : w1.cell? ⟨g, 2, none⟩ = some (.string ⟨c.toArray⟩) := ho.cell16 (j := 2) rfl; have B := Lib.hid hb; clear ho hb)
    | (go_at_call 33; with_reducible refine (N0.out _).mono ?_; rintro e w2 ⟨rfl, rfl⟩)
    | (go_at_call 33; with_reducible refine (N1.out _).mono ?_; rintro e w2 ⟨rfl, rfl⟩)
    | (go_at_call 33; with_reducible refine (N2.out _).mono ?_; rintro e w2 ⟨rfl, rfl⟩))
  go_ret2
  exact ⟨ret2_eq (int_eq (by omega)) rfl, B.out⟩
set_option maxHeartbeats 4000000 in
theorem rpc_p_s7t (s : ByteArray) (most : Int) (w : World) (y1 : decide (most < 0) = false) (y2 : decide (999 < most) = false) (z0 : 0 < s.size) (z1 : ((s[0].toNat : Int) == 43) = true) (z2 : ((s[0].toNat : Int) == 45) = false) (a b c : List UInt8) (h m t : Int) (hb : 0 ≤ h ∧ h < 100000) (mb : 0 ≤ m ∧ m < 100000) (tb : 0 ≤ t ∧ t < 100000)
    (f0 : decide (most < h) = true)
    (HP : Hid (∀ w, Calls Try.prog 32 #[.string (s.extract 1 s.size), .int .u8 58] w fun x w' => ∃ v, x = .returned v ∧ Os w' w.heap.size v [a, b, c] ∧ Below w.heap.size w w'))
    (N0 : Hid (∀ w, Calls Try.prog 33 #[.string ⟨a.toArray⟩, .int .i64 1, .int .i64 3] w fun e w' => e = .returned (.tuple #[.int .i64 h, .bool true]) ∧ w = w'))
    (N1 : Hid (∀ w, Calls Try.prog 33 #[.string ⟨b.toArray⟩, .int .i64 2, .int .i64 2] w fun e w' => e = .returned (.tuple #[.int .i64 m, .bool true]) ∧ w = w'))
    (N2 : Hid (∀ w, Calls Try.prog 33 #[.string ⟨c.toArray⟩, .int .i64 2, .int .i64 2] w fun e w' => e = .returned (.tuple #[.int .i64 t, .bool true]) ∧ w = w'))
    : Calls Try.prog 15 #[.string s, .int .i64 most] w fun x w' => x = .returned (.tuple #[.int .i64 (0), .int .i64 1]) ∧ Below w.heap.size w w' := by
  have z3 : decide (0 < s.size) = true := decide_eq_true z0
  go_enter Try.func15, Try.ntmps15
  go_wp2_with (first
    | (go_at_call 32; refine (HP.out _).mono ?_; rintro x w1 ⟨v, rfl, ho, hb⟩; obtain ⟨g, cc, rfl, -⟩ := ho.pos16 (by simp); have e0 : w1.cell? ⟨g, 0, none⟩ = some (.string ⟨a.toArray⟩) := ho.cell16 (j := 0) rfl; have e1 : w1.cell? ⟨g, 1, none⟩ = some (.string ⟨b.toArray⟩) := ho.cell16 (j := 1) rfl; have e2 : w1.cell? ⟨g, 2, none⟩ = some (.string ⟨c.toArray⟩) := ho.cell16 (j := 2) rfl; have B := Lib.hid hb; clear ho hb)
    | (go_at_call 33; with_reducible refine (N0.out _).mono ?_; rintro e w2 ⟨rfl, rfl⟩)
    | (go_at_call 33; with_reducible refine (N1.out _).mono ?_; rintro e w2 ⟨rfl, rfl⟩)
    | (go_at_call 33; with_reducible refine (N2.out _).mono ?_; rintro e w2 ⟨rfl, rfl⟩))
  refine wp_loop_rounds 3 ?_
  rw [rounds_succ]
  go_wp2_with (first
    | (go_at_call 32; refine (HP.out _).mono ?_; rintro x w1 ⟨v, rfl, ho, hb⟩; obtain ⟨g, cc, rfl, -⟩ := ho.pos16 (by simp); have e0 : w1.cell? ⟨g, 0, none⟩ = some (.string ⟨a.toArray⟩) := ho.cell16 (j := 0) rfl; have e1 : w1.cell? ⟨g, 1, none⟩ = some (.string ⟨b.toArray⟩) := ho.cell16 (j := 1) rfl; have e2 : w1.cell? ⟨g, 2, none⟩ = some (.string ⟨c.toArray⟩) := ho.cell16 (j := 2) rfl; have B := Lib.hid hb; clear ho hb)
    | (go_at_call 33; with_reducible refine (N0.out _).mono ?_; rintro e w2 ⟨rfl, rfl⟩)
    | (go_at_call 33; with_reducible refine (N1.out _).mono ?_; rintro e w2 ⟨rfl, rfl⟩)
    | (go_at_call 33; with_reducible refine (N2.out _).mono ?_; rintro e w2 ⟨rfl, rfl⟩))
  rw [rounds_succ]
  go_wp2_with (first
    | (go_at_call 32; refine (HP.out _).mono ?_; rintro x w1 ⟨v, rfl, ho, hb⟩; obtain ⟨g, cc, rfl, -⟩ := ho.pos16 (by simp); have e0 : w1.cell? ⟨g, 0, none⟩ = some (.string ⟨a.toArray⟩) := ho.cell16 (j := 0) rfl; have e1 : w1.cell? ⟨g, 1, none⟩ = some (.string ⟨b.toArray⟩) := ho.cell16 (j := 1) rfl; have e2 : w1.cell? ⟨g, 2, none⟩ = some (.string ⟨c.toArray⟩) := ho.cell16 (j := 2) rfl; have B := Lib.hid hb; clear ho hb)
    | (go_at_call 33; with_reducible refine (N0.out _).mono ?_; rintro e w2 ⟨rfl, rfl⟩)
    | (go_at_call 33; with_reducible refine (N1.out _).mono ?_; rintro e w2 ⟨rfl, rfl⟩)
    | (go_at_call 33; with_reducible refine (N2.out _).mono ?_; rintro e w2 ⟨rfl, rfl⟩))
  rw [rounds_succ]
  go_wp2_with (first
    | (go_at_call 32; refine (HP.out _).mono ?_; rintro x w1 ⟨v, rfl, ho, hb⟩; obtain ⟨g, cc, rfl, -⟩ := ho.pos16 (by simp); have e0 : w1.cell? ⟨g, 0, none⟩ = some (.string ⟨a.toArray⟩) := ho.cell16 (j := 0) rfl; have e1 : w1.cell? ⟨g, 1, none⟩ = some (.string ⟨b.toArray⟩) := ho.cell16 (j := 1) rfl; have e2 : w1.cell? ⟨g, 2, none⟩ = some (.string ⟨c.toArray⟩) := ho.cell16 (j := 2) rfl; have B := Lib.hid hb; clear ho hb)
    | (go_at_call 33; with_reducible refine (N0.out _).mono ?_; rintro e w2 ⟨rfl, rfl⟩)
    | (go_at_call 33; with_reducible refine (N1.out _).mono ?_; rintro e w2 ⟨rfl, rfl⟩)
    | (go_at_call 33; with_reducible refine (N2.out _).mono ?_; rintro e w2 ⟨rfl, rfl⟩))
  go_ret2
  exact ⟨ret2_eq (int_eq (by omega)) rfl, B.out⟩
set_option maxHeartbeats 4000000 in
theorem rpc_p_s7ft (s : ByteArray) (most : Int) (w : World) (y1 : decide (most < 0) = false) (y2 : decide (999 < most) = false) (z0 : 0 < s.size) (z1 : ((s[0].toNat : Int) == 43) = true) (z2 : ((s[0].toNat : Int) == 45) = false) (a b c : List UInt8) (h m t : Int) (hb : 0 ≤ h ∧ h < 100000) (mb : 0 ≤ m ∧ m < 100000) (tb : 0 ≤ t ∧ t < 100000)
    (f0 : decide (most < h) = false)
    (f1 : decide (59 < m) = true)
    (HP : Hid (∀ w, Calls Try.prog 32 #[.string (s.extract 1 s.size), .int .u8 58] w fun x w' => ∃ v, x = .returned v ∧ Os w' w.heap.size v [a, b, c] ∧ Below w.heap.size w w'))
    (N0 : Hid (∀ w, Calls Try.prog 33 #[.string ⟨a.toArray⟩, .int .i64 1, .int .i64 3] w fun e w' => e = .returned (.tuple #[.int .i64 h, .bool true]) ∧ w = w'))
    (N1 : Hid (∀ w, Calls Try.prog 33 #[.string ⟨b.toArray⟩, .int .i64 2, .int .i64 2] w fun e w' => e = .returned (.tuple #[.int .i64 m, .bool true]) ∧ w = w'))
    (N2 : Hid (∀ w, Calls Try.prog 33 #[.string ⟨c.toArray⟩, .int .i64 2, .int .i64 2] w fun e w' => e = .returned (.tuple #[.int .i64 t, .bool true]) ∧ w = w'))
    : Calls Try.prog 15 #[.string s, .int .i64 most] w fun x w' => x = .returned (.tuple #[.int .i64 (0), .int .i64 1]) ∧ Below w.heap.size w w' := by
  have z3 : decide (0 < s.size) = true := decide_eq_true z0
  go_enter Try.func15, Try.ntmps15
  go_wp2_with (first
    | (go_at_call 32; refine (HP.out _).mono ?_; rintro x w1 ⟨v, rfl, ho, hb⟩; obtain ⟨g, cc, rfl, -⟩ := ho.pos16 (by simp); have e0 : w1.cell? ⟨g, 0, none⟩ = some (.string ⟨a.toArray⟩) := ho.cell16 (j := 0) rfl; have e1 : w1.cell? ⟨g, 1, none⟩ = some (.string ⟨b.toArray⟩) := ho.cell16 (j := 1) rfl; have e2 : w1.cell? ⟨g, 2, none⟩ = some (.string ⟨c.toArray⟩) := ho.cell16 (j := 2) rfl; have B := Lib.hid hb; clear ho hb)
    | (go_at_call 33; with_reducible refine (N0.out _).mono ?_; rintro e w2 ⟨rfl, rfl⟩)
    | (go_at_call 33; with_reducible refine (N1.out _).mono ?_; rintro e w2 ⟨rfl, rfl⟩)
    | (go_at_call 33; with_reducible refine (N2.out _).mono ?_; rintro e w2 ⟨rfl, rfl⟩))
  refine wp_loop_rounds 3 ?_
  rw [rounds_succ]
  go_wp2_with (first
    | (go_at_call 32; refine (HP.out _).mono ?_; rintro x w1 ⟨v, rfl, ho, hb⟩; obtain ⟨g, cc, rfl, -⟩ := ho.pos16 (by simp); have e0 : w1.cell? ⟨g, 0, none⟩ = some (.string ⟨a.toArray⟩) := ho.cell16 (j := 0) rfl; have e1 : w1.cell? ⟨g, 1, none⟩ = some (.string ⟨b.toArray⟩) := ho.cell16 (j := 1) rfl; have e2 : w1.cell? ⟨g, 2, none⟩ = some (.string ⟨c.toArray⟩) := ho.cell16 (j := 2) rfl; have B := Lib.hid hb; clear ho hb)
    | (go_at_call 33; with_reducible refine (N0.out _).mono ?_; rintro e w2 ⟨rfl, rfl⟩)
    | (go_at_call 33; with_reducible refine (N1.out _).mono ?_; rintro e w2 ⟨rfl, rfl⟩)
    | (go_at_call 33; with_reducible refine (N2.out _).mono ?_; rintro e w2 ⟨rfl, rfl⟩))
  rw [rounds_succ]
  go_wp2_with (first
    | (go_at_call 32; refine (HP.out _).mono ?_; rintro x w1 ⟨v, rfl, ho, hb⟩; obtain ⟨g, cc, rfl, -⟩ := ho.pos16 (by simp); have e0 : w1.cell? ⟨g, 0, none⟩ = some (.string ⟨a.toArray⟩) := ho.cell16 (j := 0) rfl; have e1 : w1.cell? ⟨g, 1, none⟩ = some (.string ⟨b.toArray⟩) := ho.cell16 (j := 1) rfl; have e2 : w1.cell? ⟨g, 2, none⟩ = some (.string ⟨c.toArray⟩) := ho.cell16 (j := 2) rfl; have B := Lib.hid hb; clear ho hb)
    | (go_at_call 33; with_reducible refine (N0.out _).mono ?_; rintro e w2 ⟨rfl, rfl⟩)
    | (go_at_call 33; with_reducible refine (N1.out _).mono ?_; rintro e w2 ⟨rfl, rfl⟩)
    | (go_at_call 33; with_reducible refine (N2.out _).mono ?_; rintro e w2 ⟨rfl, rfl⟩))
  rw [rounds_succ]
  go_wp2_with (first
    | (go_at_call 32; refine (HP.out _).mono ?_; rintro x w1 ⟨v, rfl, ho, hb⟩; obtain ⟨g, cc, rfl, -⟩ := ho.pos16 (by simp); have e0 : w1.cell? ⟨g, 0, none⟩ = some (.string ⟨a.toArray⟩) := ho.cell16 (j := 0) rfl; have e1 : w1.cell? ⟨g, 1, none⟩ = some (.string ⟨b.toArray⟩) := ho.cell16 (j := 1) rfl; have e2 : w1.cell? ⟨g, 2, none⟩ = some (.string ⟨c.toArray⟩) := ho.cell16 (j := 2) rfl; have B := Lib.hid hb; clear ho hb)
    | (go_at_call 33; with_reducible refine (N0.out _).mono ?_; rintro e w2 ⟨rfl, rfl⟩)
    | (go_at_call 33; with_reducible refine (N1.out _).mono ?_; rintro e w2 ⟨rfl, rfl⟩)
    | (go_at_call 33; with_reducible refine (N2.out _).mono ?_; rintro e w2 ⟨rfl, rfl⟩))
  go_ret2
  exact ⟨ret2_eq (int_eq (by omega)) rfl, B.out⟩
set_option maxHeartbeats 4000000 in
theorem rpc_p_s7fft (s : ByteArray) (most : Int) (w : World) (y1 : decide (most < 0) = false) (y2 : decide (999 < most) = false) (z0 : 0 < s.size) (z1 : ((s[0].toNat : Int) == 43) = true) (z2 : ((s[0].toNat : Int) == 45) = false) (a b c : List UInt8) (h m t : Int) (hb : 0 ≤ h ∧ h < 100000) (mb : 0 ≤ m ∧ m < 100000) (tb : 0 ≤ t ∧ t < 100000)
    (f0 : decide (most < h) = false)
    (f1 : decide (59 < m) = false)
    (f2 : decide (59 < t) = true)
    (HP : Hid (∀ w, Calls Try.prog 32 #[.string (s.extract 1 s.size), .int .u8 58] w fun x w' => ∃ v, x = .returned v ∧ Os w' w.heap.size v [a, b, c] ∧ Below w.heap.size w w'))
    (N0 : Hid (∀ w, Calls Try.prog 33 #[.string ⟨a.toArray⟩, .int .i64 1, .int .i64 3] w fun e w' => e = .returned (.tuple #[.int .i64 h, .bool true]) ∧ w = w'))
    (N1 : Hid (∀ w, Calls Try.prog 33 #[.string ⟨b.toArray⟩, .int .i64 2, .int .i64 2] w fun e w' => e = .returned (.tuple #[.int .i64 m, .bool true]) ∧ w = w'))
    (N2 : Hid (∀ w, Calls Try.prog 33 #[.string ⟨c.toArray⟩, .int .i64 2, .int .i64 2] w fun e w' => e = .returned (.tuple #[.int .i64 t, .bool true]) ∧ w = w'))
    : Calls Try.prog 15 #[.string s, .int .i64 most] w fun x w' => x = .returned (.tuple #[.int .i64 (0), .int .i64 1]) ∧ Below w.heap.size w w' := by
  have z3 : decide (0 < s.size) = true := decide_eq_true z0
  go_enter Try.func15, Try.ntmps15
  go_wp2_with (first
    | (go_at_call 32; refine (HP.out _).mono ?_; rintro x w1 ⟨v, rfl, ho, hb⟩; obtain ⟨g, cc, rfl, -⟩ := ho.pos16 (by simp); have e0 : w1.cell? ⟨g, 0, none⟩ = some (.string ⟨a.toArray⟩) := ho.cell16 (j := 0) rfl; have e1 : w1.cell? ⟨g, 1, none⟩ = some (.string ⟨b.toArray⟩) := ho.cell16 (j := 1) rfl; have e2 : w1.cell? ⟨g, 2, none⟩ = some (.string ⟨c.toArray⟩) := ho.cell16 (j := 2) rfl; have B := Lib.hid hb; clear ho hb)
    | (go_at_call 33; with_reducible refine (N0.out _).mono ?_; rintro e w2 ⟨rfl, rfl⟩)
    | (go_at_call 33; with_reducible refine (N1.out _).mono ?_; rintro e w2 ⟨rfl, rfl⟩)
    | (go_at_call 33; with_reducible refine (N2.out _).mono ?_; rintro e w2 ⟨rfl, rfl⟩))
  refine wp_loop_rounds 3 ?_
  rw [rounds_succ]
  go_wp2_with (first
    | (go_at_call 32; refine (HP.out _).mono ?_; rintro x w1 ⟨v, rfl, ho, hb⟩; obtain ⟨g, cc, rfl, -⟩ := ho.pos16 (by simp); have e0 : w1.cell? ⟨g, 0, none⟩ = some (.string ⟨a.toArray⟩) := ho.cell16 (j := 0) rfl; have e1 : w1.cell? ⟨g, 1, none⟩ = some (.string ⟨b.toArray⟩) := ho.cell16 (j := 1) rfl; have e2 : w1.cell? ⟨g, 2, none⟩ = some (.string ⟨c.toArray⟩) := ho.cell16 (j := 2) rfl; have B := Lib.hid hb; clear ho hb)
    | (go_at_call 33; with_reducible refine (N0.out _).mono ?_; rintro e w2 ⟨rfl, rfl⟩)
    | (go_at_call 33; with_reducible refine (N1.out _).mono ?_; rintro e w2 ⟨rfl, rfl⟩)
    | (go_at_call 33; with_reducible refine (N2.out _).mono ?_; rintro e w2 ⟨rfl, rfl⟩))
  rw [rounds_succ]
  go_wp2_with (first
    | (go_at_call 32; refine (HP.out _).mono ?_; rintro x w1 ⟨v, rfl, ho, hb⟩; obtain ⟨g, cc, rfl, -⟩ := ho.pos16 (by simp); have e0 : w1.cell? ⟨g, 0, none⟩ = some (.string ⟨a.toArray⟩) := ho.cell16 (j := 0) rfl; have e1 : w1.cell? ⟨g, 1, none⟩ = some (.string ⟨b.toArray⟩) := ho.cell16 (j := 1) rfl; have e2 : w1.cell? ⟨g, 2, none⟩ = some (.string ⟨c.toArray⟩) := ho.cell16 (j := 2) rfl; have B := Lib.hid hb; clear ho hb)
    | (go_at_call 33; with_reducible refine (N0.out _).mono ?_; rintro e w2 ⟨rfl, rfl⟩)
    | (go_at_call 33; with_reducible refine (N1.out _).mono ?_; rintro e w2 ⟨rfl, rfl⟩)
    | (go_at_call 33; with_reducible refine (N2.out _).mono ?_; rintro e w2 ⟨rfl, rfl⟩))
  rw [rounds_succ]
  go_wp2_with (first
    | (go_at_call 32; refine (HP.out _).mono ?_; rintro x w1 ⟨v, rfl, ho, hb⟩; obtain ⟨g, cc, rfl, -⟩ := ho.pos16 (by simp); have e0 : w1.cell? ⟨g, 0, none⟩ = some (.string ⟨a.toArray⟩) := ho.cell16 (j := 0) rfl; have e1 : w1.cell? ⟨g, 1, none⟩ = some (.string ⟨b.toArray⟩) := ho.cell16 (j := 1) rfl; have e2 : w1.cell? ⟨g, 2, none⟩ = some (.string ⟨c.toArray⟩) := ho.cell16 (j := 2) rfl; have B := Lib.hid hb; clear ho hb)
    | (go_at_call 33; with_reducible refine (N0.out _).mono ?_; rintro e w2 ⟨rfl, rfl⟩)
    | (go_at_call 33; with_reducible refine (N1.out _).mono ?_; rintro e w2 ⟨rfl, rfl⟩)
    | (go_at_call 33; with_reducible refine (N2.out _).mono ?_; rintro e w2 ⟨rfl, rfl⟩))
  go_ret2
  exact ⟨ret2_eq (int_eq (by omega)) rfl, B.out⟩
set_option maxHeartbeats 4000000 in
theorem rpc_p_s7fff (s : ByteArray) (most : Int) (w : World) (y1 : decide (most < 0) = false) (y2 : decide (999 < most) = false) (z0 : 0 < s.size) (z1 : ((s[0].toNat : Int) == 43) = true) (z2 : ((s[0].toNat : Int) == 45) = false) (a b c : List UInt8) (h m t : Int) (hb : 0 ≤ h ∧ h < 100000) (mb : 0 ≤ m ∧ m < 100000) (tb : 0 ≤ t ∧ t < 100000)
    (f0 : decide (most < h) = false)
    (f1 : decide (59 < m) = false)
    (f2 : decide (59 < t) = false)
    (HP : Hid (∀ w, Calls Try.prog 32 #[.string (s.extract 1 s.size), .int .u8 58] w fun x w' => ∃ v, x = .returned v ∧ Os w' w.heap.size v [a, b, c] ∧ Below w.heap.size w w'))
    (N0 : Hid (∀ w, Calls Try.prog 33 #[.string ⟨a.toArray⟩, .int .i64 1, .int .i64 3] w fun e w' => e = .returned (.tuple #[.int .i64 h, .bool true]) ∧ w = w'))
    (N1 : Hid (∀ w, Calls Try.prog 33 #[.string ⟨b.toArray⟩, .int .i64 2, .int .i64 2] w fun e w' => e = .returned (.tuple #[.int .i64 m, .bool true]) ∧ w = w'))
    (N2 : Hid (∀ w, Calls Try.prog 33 #[.string ⟨c.toArray⟩, .int .i64 2, .int .i64 2] w fun e w' => e = .returned (.tuple #[.int .i64 t, .bool true]) ∧ w = w'))
    : Calls Try.prog 15 #[.string s, .int .i64 most] w fun x w' => x = .returned (.tuple #[.int .i64 (3600 * h + 60 * m + t), .int .i64 0]) ∧ Below w.heap.size w w' := by
  have z3 : decide (0 < s.size) = true := decide_eq_true z0
  go_enter Try.func15, Try.ntmps15
  go_wp2_with (first
    | (go_at_call 32; refine (HP.out _).mono ?_; rintro x w1 ⟨v, rfl, ho, hb⟩; obtain ⟨g, cc, rfl, -⟩ := ho.pos16 (by simp); have e0 : w1.cell? ⟨g, 0, none⟩ = some (.string ⟨a.toArray⟩) := ho.cell16 (j := 0) rfl; have e1 : w1.cell? ⟨g, 1, none⟩ = some (.string ⟨b.toArray⟩) := ho.cell16 (j := 1) rfl; have e2 : w1.cell? ⟨g, 2, none⟩ = some (.string ⟨c.toArray⟩) := ho.cell16 (j := 2) rfl; have B := Lib.hid hb; clear ho hb)
    | (go_at_call 33; with_reducible refine (N0.out _).mono ?_; rintro e w2 ⟨rfl, rfl⟩)
    | (go_at_call 33; with_reducible refine (N1.out _).mono ?_; rintro e w2 ⟨rfl, rfl⟩)
    | (go_at_call 33; with_reducible refine (N2.out _).mono ?_; rintro e w2 ⟨rfl, rfl⟩))
  refine wp_loop_rounds 3 ?_
  rw [rounds_succ]
  go_wp2_with (first
    | (go_at_call 32; refine (HP.out _).mono ?_; rintro x w1 ⟨v, rfl, ho, hb⟩; obtain ⟨g, cc, rfl, -⟩ := ho.pos16 (by simp); have e0 : w1.cell? ⟨g, 0, none⟩ = some (.string ⟨a.toArray⟩) := ho.cell16 (j := 0) rfl; have e1 : w1.cell? ⟨g, 1, none⟩ = some (.string ⟨b.toArray⟩) := ho.cell16 (j := 1) rfl; have e2 : w1.cell? ⟨g, 2, none⟩ = some (.string ⟨c.toArray⟩) := ho.cell16 (j := 2) rfl; have B := Lib.hid hb; clear ho hb)
    | (go_at_call 33; with_reducible refine (N0.out _).mono ?_; rintro e w2 ⟨rfl, rfl⟩)
    | (go_at_call 33; with_reducible refine (N1.out _).mono ?_; rintro e w2 ⟨rfl, rfl⟩)
    | (go_at_call 33; with_reducible refine (N2.out _).mono ?_; rintro e w2 ⟨rfl, rfl⟩))
  rw [rounds_succ]
  go_wp2_with (first
    | (go_at_call 32; refine (HP.out _).mono ?_; rintro x w1 ⟨v, rfl, ho, hb⟩; obtain ⟨g, cc, rfl, -⟩ := ho.pos16 (by simp); have e0 : w1.cell? ⟨g, 0, none⟩ = some (.string ⟨a.toArray⟩) := ho.cell16 (j := 0) rfl; have e1 : w1.cell? ⟨g, 1, none⟩ = some (.string ⟨b.toArray⟩) := ho.cell16 (j := 1) rfl; have e2 : w1.cell? ⟨g, 2, none⟩ = some (.string ⟨c.toArray⟩) := ho.cell16 (j := 2) rfl; have B := Lib.hid hb; clear ho hb)
    | (go_at_call 33; with_reducible refine (N0.out _).mono ?_; rintro e w2 ⟨rfl, rfl⟩)
    | (go_at_call 33; with_reducible refine (N1.out _).mono ?_; rintro e w2 ⟨rfl, rfl⟩)
    | (go_at_call 33; with_reducible refine (N2.out _).mono ?_; rintro e w2 ⟨rfl, rfl⟩))
  rw [rounds_succ]
  go_wp2_with (first
    | (go_at_call 32; refine (HP.out _).mono ?_; rintro x w1 ⟨v, rfl, ho, hb⟩; obtain ⟨g, cc, rfl, -⟩ := ho.pos16 (by simp); have e0 : w1.cell? ⟨g, 0, none⟩ = some (.string ⟨a.toArray⟩) := ho.cell16 (j := 0) rfl; have e1 : w1.cell? ⟨g, 1, none⟩ = some (.string ⟨b.toArray⟩) := ho.cell16 (j := 1) rfl; have e2 : w1.cell? ⟨g, 2, none⟩ = some (.string ⟨c.toArray⟩) := ho.cell16 (j := 2) rfl; have B := Lib.hid hb; clear ho hb)
    | (go_at_call 33; with_reducible refine (N0.out _).mono ?_; rintro e w2 ⟨rfl, rfl⟩)
    | (go_at_call 33; with_reducible refine (N1.out _).mono ?_; rintro e w2 ⟨rfl, rfl⟩)
    | (go_at_call 33; with_reducible refine (N2.out _).mono ?_; rintro e w2 ⟨rfl, rfl⟩))
  go_ret2
  exact ⟨ret2_eq (int_eq (by omega)) rfl, B.out⟩
end Go.Proofs.Ytkhcneacjnpcnaa
