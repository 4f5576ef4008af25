/- EraBack. -/
import Derived.Test.YtdonicaiimeleaaEraF
namespace Go.Proofs.Ytdonicaiimeleaa
open Go.RowKit
set_option linter.unusedVariables false
set_option linter.unusedSimpArgs false

theorem eraback_no (t p b : Int) (w : World) (h : okb b = false) :
    Calls Try.prog 6 #[.int .i64 t, .int .i64 p, .int .i64 b] w fun e w' => e = .returned (.bool true) ∧ w = w' := by
  have q0 := fun op t W x k => guard_ev op t W x k
  have q1 := fun W k => eql_ev W k
  have q2 := fun W k => neq_ev W k
  have H1 := Lib.hid (fun w => foldbits_no t b w h)
  have H2 := Lib.hid (fun w => near_no t p b w h)
  rcases okb_no h with hc | ⟨hc1, hc2⟩
  · clear h
    go_enter Try.func6, Try.ntmps6
    go_wp2_with first
      | (go_at_call 7; refine (alive13_any _).mono ?_; rintro e w' ⟨rfl, rfl⟩)
      | (go_at_call 8; refine (H1.out _).mono ?_; rintro e w' ⟨rfl, rfl⟩)
      | (go_at_call 9; refine (H2.out _).mono ?_; rintro e w' ⟨rfl, rfl⟩)
    go_ret
    exact ⟨rfl, rfl⟩
  · clear h
    go_enter Try.func6, Try.ntmps6
    go_wp2_with first
      | (go_at_call 7; refine (alive13_any _).mono ?_; rintro e w' ⟨rfl, rfl⟩)
      | (go_at_call 8; refine (H1.out _).mono ?_; rintro e w' ⟨rfl, rfl⟩)
      | (go_at_call 9; refine (H2.out _).mono ?_; rintro e w' ⟨rfl, rfl⟩)
    go_ret
    exact ⟨rfl, rfl⟩

theorem eraback_near (t p : Int) (n : Nat) (w : World) (ht : fits t) (hp : fits p) (h1 : 1 ≤ n) (h2 : n ≤ 62) (hn : nr t p n = true) :
    Calls Try.prog 6 #[.int .i64 t, .int .i64 p, .int .i64 n] w fun e w' => e = .returned (.bool true) ∧ w = w' := by
  have q0 := fun op t W x k => guard_ev op t W x k
  have q1 := fun W k => eql_ev W k
  have q2 := fun W k => neq_ev W k
  have H1 := Lib.hid (fun w => foldbits_yes t n w ht h1 h2)
  have H2 := Lib.hid (fun w => near_yes t p n w ht hp h1 h2)
  rw [hn] at H2
  have fb := fo_bd t n
  have h62 := pw_62 h2
  have H3 := Lib.hid (fun w => bits_yes (fo t n) p n w h1 h2 fb.1 fb.2 hp)
  rw [un_fo h1 hn, sm_fit ht, bad_fit ht] at H3
  clear ht hp hn fb h62 h1 h2
  generalize fo t n = f at *
  go_enter Try.func6, Try.ntmps6
  go_wp2_with first
    | (go_at_call 7; refine (alive13_any _).mono ?_; rintro e w' ⟨rfl, rfl⟩)
    | (go_at_call 8; refine (H1.out _).mono ?_; rintro e w' ⟨rfl, rfl⟩)
    | (go_at_call 9; refine (H2.out _).mono ?_; rintro e w' ⟨rfl, rfl⟩)
    | (go_at_call 10; refine (H3.out _).mono ?_; rintro e w' ⟨rfl, rfl⟩)
  go_ret
  exact ⟨by simp, rfl⟩

theorem eraback_over (t p : Int) (n : Nat) (w : World) (ht : fits t) (hp : fits p) (h1 : 1 ≤ n) (h2 : n ≤ 62) (hn : nr t p n = false) (hf : ¬ fits (un (fo t n) p n)) :
    Calls Try.prog 6 #[.int .i64 t, .int .i64 p, .int .i64 n] w fun e w' => e = .returned (.bool true) ∧ w = w' := by
  have q0 := fun op t W x k => guard_ev op t W x k
  have q1 := fun W k => eql_ev W k
  have q2 := fun W k => neq_ev W k
  have H1 := Lib.hid (fun w => foldbits_yes t n w ht h1 h2)
  have H2 := Lib.hid (fun w => near_yes t p n w ht hp h1 h2)
  rw [hn] at H2
  have fb := fo_bd t n
  have h62 := pw_62 h2
  have H3 := Lib.hid (fun w => bits_yes (fo t n) p n w h1 h2 fb.1 fb.2 hp)
  rw [sm_no hf, bad_no hf] at H3
  clear ht hp hn fb h62 h1 h2 hf
  generalize fo t n = f at *
  go_enter Try.func6, Try.ntmps6
  go_wp2_with first
    | (go_at_call 7; refine (alive13_any _).mono ?_; rintro e w' ⟨rfl, rfl⟩)
    | (go_at_call 8; refine (H1.out _).mono ?_; rintro e w' ⟨rfl, rfl⟩)
    | (go_at_call 9; refine (H2.out _).mono ?_; rintro e w' ⟨rfl, rfl⟩)
    | (go_at_call 10; refine (H3.out _).mono ?_; rintro e w' ⟨rfl, rfl⟩)
    | (go_at_call 13; refine (is_any 5 5 _ (by decide) (by decide)).mono ?_; rintro e w' ⟨rfl, rfl⟩)
  go_ret
  exact ⟨rfl, rfl⟩

theorem eraback_other (t p : Int) (n : Nat) (w : World) (ht : fits t) (hp : fits p) (h1 : 1 ≤ n) (h2 : n ≤ 62) (hn : nr t p n = false) (hf : fits (un (fo t n) p n)) :
    Calls Try.prog 6 #[.int .i64 t, .int .i64 p, .int .i64 n] w fun e w' => e = .returned (.bool true) ∧ w = w' := by
  have q0 := fun op t W x k => guard_ev op t W x k
  have q1 := fun W k => eql_ev W k
  have q2 := fun W k => neq_ev W k
  have H1 := Lib.hid (fun w => foldbits_yes t n w ht h1 h2)
  have H2 := Lib.hid (fun w => near_yes t p n w ht hp h1 h2)
  rw [hn] at H2
  have fb := fo_bd t n
  have h62 := pw_62 h2
  have H3 := Lib.hid (fun w => bits_yes (fo t n) p n w h1 h2 fb.1 fb.2 hp)
  rw [sm_fit hf, bad_fit hf] at H3
  have H4 := Lib.hid (fun w => near_yes (un (fo t n) p n) p n w hf hp h1 h2)
  have H5 := Lib.hid (fun w => foldbits_yes (un (fo t n) p n) n w hf h1 h2)
  rw [fo_un _ _ fb.1 fb.2] at H5
  have hu := nr_un (fo t n) p h1
  rw [hu] at H4
  have hne : (un (fo t n) p n != t) = true := bne_iff_ne.mpr (fun e => by rw [e, hn] at hu; cases hu)
  clear ht hp hn fb h62 h1 h2 hf hu
  generalize un (fo t n) p n = U at *
  generalize fo t n = f at *
  go_enter Try.func6, Try.ntmps6
  go_wp2_with first
    | (go_at_call 7; refine (alive13_any _).mono ?_; rintro e w' ⟨rfl, rfl⟩)
    | (go_at_call_of 8 (Value.int IntKind.i64 t); refine (H1.out _).mono ?_; rintro e w' ⟨rfl, rfl⟩)
    | (go_at_call_of 9 (Value.int IntKind.i64 t); refine (H2.out _).mono ?_; rintro e w' ⟨rfl, rfl⟩)
    | (go_at_call 10; refine (H3.out _).mono ?_; rintro e w' ⟨rfl, rfl⟩)
    | (go_at_call_of 8 (Value.int IntKind.i64 U); refine (H5.out _).mono ?_; rintro e w' ⟨rfl, rfl⟩)
    | (go_at_call_of 9 (Value.int IntKind.i64 U); refine (H4.out _).mono ?_; rintro e w' ⟨rfl, rfl⟩)
  go_ret
  exact ⟨by simp, rfl⟩

theorem eraback_all (t p b : Int) (w : World) (ht : fits t) (hp : fits p) :
    Calls Try.prog 6 #[.int .i64 t, .int .i64 p, .int .i64 b] w fun e w' => e = .returned (.bool true) ∧ w = w' := by
  cases h : okb b with
  | false => exact eraback_no t p b w h
  | true =>
    obtain ⟨n, rfl, h1, h2⟩ := okb_of h
    cases hn : nr t p n with
    | true => exact eraback_near t p n w ht hp h1 h2 hn
    | false =>
      by_cases hf : fits (un (fo t n) p n)
      · exact eraback_other t p n w ht hp h1 h2 hn hf
      · exact eraback_over t p n w ht hp h1 h2 hn hf
theorem eraback_walk (t p b : Int) (w : World) (ht : fits t) (hp : fits p) (hb : fits b) :
    Calls Try.prog 6 #[.int .i64 t, .int .i64 p, .int .i64 b] w fun e w' => e = .returned (.bool true) ∧ Below w.heap.size w w' :=
  (eraback_all t p b w ht hp).mono fun e w' h => ⟨h.1, h.2 ▸ Below.refl _ _⟩
end Go.Proofs.Ytdonicaiimeleaa
