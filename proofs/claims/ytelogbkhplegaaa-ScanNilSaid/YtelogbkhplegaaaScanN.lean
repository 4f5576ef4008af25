/- A nil scanner. -/
import Derived.Test.YtelogbkhplegaaaSLawA
namespace Go.Proofs.Ytelogbkhplegaaa
open Go.RowKit
set_option linter.unusedVariables false

theorem nil_at (w : World) :
    Calls Try.prog 14 #[.pointer none] w fun x w' => x = .returned (.int .i64 0) ∧ w = w' := by
  go_enter Try.func14, Try.ntmps14
  go_wp2_with (first
    | (go_at_call 54; refine (stopped_nil_s _).mono ?_; rintro x w' ⟨rfl, rfl⟩))
  go_ret
  exact ⟨rfl, rfl⟩
theorem nil_left (w : World) :
    Calls Try.prog 18 #[.pointer none] w fun x w' => x = .returned (.int .i64 0) ∧ w = w' := by
  go_enter Try.func18, Try.ntmps18
  go_wp2_with (first
    | (go_at_call 54; refine (stopped_nil_s _).mono ?_; rintro x w' ⟨rfl, rfl⟩))
  go_ret
  exact ⟨rfl, rfl⟩
theorem nil_peek (w : World) :
    Calls Try.prog 22 #[.pointer none] w fun x w' => x = .returned (.tuple #[.int .u8 0, .bool false]) ∧ w = w' := by
  go_enter Try.func22, Try.ntmps22
  go_wp2_with (first
    | (go_at_call 54; refine (stopped_nil_s _).mono ?_; rintro x w' ⟨rfl, rfl⟩) | (go_at_call 18; refine (nil_left _).mono ?_; rintro x w' ⟨rfl, rfl⟩))
  go_ret2
  exact ⟨rfl, rfl⟩
theorem nil_take (w : World) (b : UInt8) :
    Calls Try.prog 23 #[.pointer none, .int .u8 (b.toNat : Int)] w fun x w' => x = .returned (.bool false) ∧ w = w' := by
  go_enter Try.func23, Try.ntmps23
  go_wp2_with (first
    | (go_at_call 54; refine (stopped_nil_s _).mono ?_; rintro x w' ⟨rfl, rfl⟩) | (go_at_call 22; refine (nil_peek _).mono ?_; rintro x w' ⟨rfl, rfl⟩))
  go_ret
  exact ⟨rfl, rfl⟩
theorem nil_fold (w : World) (s : ByteArray) :
    Calls Try.prog 24 #[.pointer none, .string s] w fun x w' => x = .returned (.bool false) ∧ w = w' := by
  go_enter Try.func24, Try.ntmps24
  go_wp2_with (first
    | (go_at_call 54; refine (stopped_nil_s _).mono ?_; rintro x w' ⟨rfl, rfl⟩))
  go_ret
  exact ⟨rfl, rfl⟩
theorem nil_figures (w : World) (a b : Int) :
    Calls Try.prog 25 #[.pointer none, .int .i64 a, .int .i64 b] w fun x w' => x = .returned (.int .i64 0) ∧ w = w' := by
  go_enter Try.func25, Try.ntmps25
  go_wp2_with (first
    | (go_at_call 54; refine (stopped_nil_s _).mono ?_; rintro x w' ⟨rfl, rfl⟩))
  go_ret
  exact ⟨rfl, rfl⟩
theorem nil_fail (w : World) (v : Value) :
    Calls Try.prog 21 #[.pointer none, v] w fun x w' => x = .returned (.tuple #[]) ∧ w = w' := by
  go_enter Try.func21, Try.ntmps21
  go_wp2_with (go_at_call 54; refine (stopped_nil_s _).mono ?_; rintro x w' ⟨rfl, rfl⟩)
  refine bodyPost_ret (results_none rfl _ _ _) rfl ?_
  exact ⟨rfl, rfl⟩
theorem nil_skip (w : World) (n : Int) :
    Calls Try.prog 20 #[.pointer none, .int .i64 n] w fun x w' => x = .returned (.tuple #[]) ∧ w = w' := by
  go_enter Try.func20, Try.ntmps20
  go_wp2_with (go_at_call 54; refine (stopped_nil_s _).mono ?_; rintro x w' ⟨rfl, rfl⟩)
  refine bodyPost_ret (results_none rfl _ _ _) rfl ?_
  exact ⟨rfl, rfl⟩
theorem nil_must (w : World) (s : ByteArray) :
    Calls Try.prog 19 #[.pointer none, .string s] w fun x w' => x = .returned (.tuple #[]) ∧ w = w' := by
  go_enter Try.func19, Try.ntmps19
  go_wp2_with (first
    | (go_at_call 24; refine (nil_fold _ _).mono ?_; rintro x w' ⟨rfl, rfl⟩)
    | (go_at_call 21; refine (nil_fail _ _).mono ?_; rintro x w' ⟨rfl, rfl⟩))
  go_end0
  exact ⟨rfl, rfl⟩
theorem nil_err (w : World) :
    Calls Try.prog 15 #[.pointer none] w fun x w' => x = .returned (ev 8) ∧ w = w' := by
  rw [ev_iface (by decide)]
  go_enter Try.func15, Try.ntmps15
  go_wp2
  go_ret
  exact ⟨rfl, rfl⟩
theorem nil_end (w : World) :
    Calls Try.prog 28 #[.pointer none] w fun x w' => x = .returned (ev 8) ∧ w = w' := by
  have q0 := fun op t x k => guard_ev op t w x k
  have q2 := fun k => neq_ev w k
  go_enter Try.func28, Try.ntmps28
  go_wp2_with (go_at_call 15; refine (nil_err _).mono ?_; rintro x w' ⟨rfl, rfl⟩)
  go_ret
  exact ⟨rfl, rfl⟩
theorem nil_while (w : World) (v : Value) :
    Calls Try.prog 50 #[.pointer none, v] w fun x w' => x = .returned (.string ⟨#[]⟩) ∧ w = w' := by
  go_enter Try.func50, Try.ntmps50
  go_wp2_with (go_at_call 54; refine (stopped_nil_s _).mono ?_; rintro x w' ⟨rfl, rfl⟩)
  go_ret
  exact ⟨rfl, rfl⟩
theorem nil_run (w : World) (s : ByteArray) :
    Calls Try.prog 16 #[.pointer none, .string s] w fun x w' => x = .returned (.string ⟨#[]⟩) ∧ Below w.heap.size w w' := by
  go_enter Try.func16, Try.ntmps16
  go_wp2_with (go_at_call 50; refine (nil_while _ _).mono ?_; rintro x w' ⟨rfl, rfl⟩)
  go_ret
  exact ⟨rfl, (Below.refl _ _).alloc (Nat.le_refl _) _⟩
theorem nil_until (w : World) (b : UInt8) :
    Calls Try.prog 17 #[.pointer none, .int .u8 (b.toNat : Int)] w fun x w' => x = .returned (.string ⟨#[]⟩) ∧ Below w.heap.size w w' := by
  go_enter Try.func17, Try.ntmps17
  go_wp2_with (go_at_call 50; refine (nil_while _ _).mono ?_; rintro x w' ⟨rfl, rfl⟩)
  go_ret
  exact ⟨rfl, (Below.refl _ _).alloc (Nat.le_refl _) _⟩
set_option maxHeartbeats 800000 in
theorem nil_word (w : World) (L : Option Addr) (ws : List ByteArray) (c : Nat) (h : Rst w L ws) (hn : ws.length ≤ 100) :
    Calls Try.prog 26 #[.pointer none, .slice L ws.length c] w fun x w' => x = .returned (.int .i64 (-1)) ∧ w = w' := by
  have HL := Lib.hid h
  obtain ⟨nn, hnn⟩ : ∃ nn, nn = ws.length := ⟨_, rfl⟩
  rw [← hnn] at hn ⊢
  have HNN := Lib.hid hnn
  clear h hnn
  go_enter Try.func26, Try.ntmps26
  go_wp2_with fail
  go_loop [5, 6, 9] (fun _ _ i => ∃ j : Nat, i = .int .i64 j ∧ j ≤ nn) (fun _ _ i => nn - (intOf i).toNat)
  case atStart => exact ⟨0, rfl, Nat.zero_le _⟩
  case round =>
    obtain ⟨j, rfl, hj⟩ := hrel
    by_cases hlt : j < nn
    · obtain ⟨b, off, z, hz, hb1, hb2, hcell⟩ := HL.out.cell (by have := HNN.out; omega : j < ws.length)
      have HB1 := Lib.hid hb1
      rw [hb1]
      clear hz hb2 hb1
      go_wp2_with (go_at_call 24; refine (nil_fold _ _).mono ?_; rintro x w' ⟨rfl, rfl⟩)
      go_round
      case rel => exact ⟨j + 1, by go_num, by omega⟩
      case measure => simp [intOf]; omega
    · go_wp2_with (go_at_call 21; refine (nil_fail _ _).mono ?_; rintro x w' ⟨rfl, rfl⟩)
      go_ret
      exact ⟨rfl, rfl⟩
end Go.Proofs.Ytelogbkhplegaaa
