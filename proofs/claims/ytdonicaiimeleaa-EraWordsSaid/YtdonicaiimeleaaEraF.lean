/- EraBits; EraWords. -/
import Derived.Test.YtdonicaiimeleaaEraE
namespace Go.Proofs.Ytdonicaiimeleaa
open Go.RowKit
set_option linter.unusedVariables false
set_option linter.unusedSimpArgs false

theorem num0 (w : World) : Calls Try.prog 12 #[ev 0] w fun e w' => e = .returned (.int .i64 0) ∧ w = w' := num_any 0 w (by decide) (by decide)
theorem wf_u64 {a : Int} (h : (Lit.int .u64 a).wf = true) : 0 ≤ a ∧ a < 18446744073709551616 := by
  simp [Lit.wf, IntKind.min, IntKind.max, IntKind.signed, IntKind.bits] at h; omega
theorem wf_u32 {a : Int} (h : (Lit.int .u32 a).wf = true) : 0 ≤ a ∧ a < 4294967296 := by
  simp [Lit.wf, IntKind.min, IntKind.max, IntKind.signed, IntKind.bits] at h; omega

set_option maxHeartbeats 3200000 in
theorem erabits_no (t p x b : Int) (w : World) (h : okb b = false) :
    Calls Try.prog 3 #[.agg #[.int .i64 t, .int .i64 p], .int .u64 x, .int .i64 b] w fun e w' => e = .returned (.bool true) ∧ Below w.heap.size w w' := by
  have q0 := fun op t W x k => guard_ev op t W x k
  have q1 := fun W k => eql_ev W k
  have q2 := fun W k => neq_ev W k
  have H1 := Lib.hid (fun w => foldbits_no t b w h)
  have H2 := Lib.hid (fun w => near_no t p b w h)
  have H3 := Lib.hid (fun w => bits_no x b p w h)
  have H4 := Lib.hid (fun w => rbits_no x b p w h)
  obtain ⟨W0, hW0⟩ : ∃ W0, W0 = w.alloc (.cells #[.int .i64 t, .int .i64 p] 22) := ⟨_, rfl⟩
  have B : Hid (Below w.heap.size w W0) := Lib.hid (by rw [hW0]; exact bel_al _ _ _)
  have hl : W0.heap[w.heap.size]? = some (.cells #[.int .i64 t, .int .i64 p] 22 (0, 0)) := by rw [hW0]; exact heap_alloc_new _ _
  have k1 := whole_cell hl 0; have k2 := whole_cell hl 1
  have r1 : W0.drew.cell? ⟨w.heap.size, 0, none⟩ = some (.int .i64 t) := k1
  have r2 : W0.drew.cell? ⟨w.heap.size, 1, none⟩ = some (.int .i64 p) := k2
  have hc := okb_no h
  clear hl h
  go_enter Try.func3, Try.ntmps3
  go_upto_region 1 with fail
  rw [← hW0]; clear hW0
  go_upto_region 3 with (go_at_call 7; refine (alive13_any _).mono ?_; rintro e w' ⟨rfl, rfl⟩)
  go_quiet (fail)
  go_upto_region 7 with first
    | (go_at_call 8; refine (H1.out _).mono ?_; rintro e w' ⟨rfl, rfl⟩)
    | (go_at_call 9; refine (H2.out _).mono ?_; rintro e w' ⟨rfl, rfl⟩)
    | (go_at_call 10; refine (H3.out _).mono ?_; rintro e w' ⟨rfl, rfl⟩)
  go_upto_region 8 with (go_at_call 11; refine (H4.out _).mono ?_; rintro e w4 ⟨rfl, hb⟩; have hb2 : Below W0.heap.size W0 w4 := ⟨hb.os, hb.tape, hb.output, hb.size, hb.block⟩; have B : Hid (Below w.heap.size w w4) := Lib.hid (B.out.trans (hb2.mono B.out.size)))
  rcases hc with hc | ⟨hc1, hc2⟩
  · go_wp2_with first
      | (go_at_call 12; refine (num_any 1 _ (by decide) (by decide)).mono ?_; rintro e w' ⟨rfl, rfl⟩)
      | (go_at_call 13; refine (is_any 1 1 _ (by decide) (by decide)).mono ?_; rintro e w' ⟨rfl, rfl⟩)
    go_ret
    exact ⟨rfl, B.out⟩
  · go_wp2_with first
      | (go_at_call 12; refine (num_any 1 _ (by decide) (by decide)).mono ?_; rintro e w' ⟨rfl, rfl⟩)
      | (go_at_call 13; refine (is_any 1 1 _ (by decide) (by decide)).mono ?_; rintro e w' ⟨rfl, rfl⟩)
    go_ret
    exact ⟨rfl, B.out⟩

set_option maxHeartbeats 3200000 in
theorem erabits_yes (t p x : Int) (n : Nat) (w : World) (ht : fits t) (hp : fits p) (hx : 0 ≤ x ∧ x < 18446744073709551616) (h1 : 1 ≤ n) (h2 : n ≤ 62) :
    Calls Try.prog 3 #[.agg #[.int .i64 t, .int .i64 p], .int .u64 x, .int .i64 n] w fun e w' => e = .returned (.bool true) ∧ Below w.heap.size w w' := by
  have q0 := fun op t W x k => guard_ev op t W x k
  have q1 := fun W k => eql_ev W k
  have q2 := fun W k => neq_ev W k
  have H1 := Lib.hid (fun w => foldbits_yes t n w ht h1 h2)
  have H2 := Lib.hid (fun w => near_yes t p n w ht hp h1 h2)
  have H3 := Lib.hid (fun w => bits_any x n p w hx.1 hx.2 hp)
  have H4 := Lib.hid (fun w => rbits_any x n p w hx.1 hp)
  have HE := Lib.hid (bsE_lo x n p)
  generalize bsE x n p = E at *
  generalize bsV x n p = V at *
  have HF := Lib.hid (fun w => rfold_any t n w ht h2)
  have fb := fo_bd t n
  have h62 := pw_62 h2
  have e1 : IntKind.i64.wrap (fo t n) = fo t n := IntWalk.i64_in _ (by omega)
  have HT := Lib.hid (fun w => of_any t w ht)
  have HP := Lib.hid (fun w => of_any p w hp)
  have HNr := Lib.hid (fun v u w hv hu => rnear_any v u t p 4 4 n w hv hu (by omega) (by omega) h1 h2)
  generalize fo t n = f at *
  generalize nr t p n = N at *
  obtain ⟨W0, hW0⟩ : ∃ W0, W0 = w.alloc (.cells #[.int .i64 t, .int .i64 p] 22) := ⟨_, rfl⟩
  have B : Hid (Below w.heap.size w W0) := Lib.hid (by rw [hW0]; exact bel_al _ _ _)
  have hl : W0.heap[w.heap.size]? = some (.cells #[.int .i64 t, .int .i64 p] 22 (0, 0)) := by rw [hW0]; exact heap_alloc_new _ _
  have k1 := whole_cell hl 0; have k2 := whole_cell hl 1
  have r1 : W0.drew.cell? ⟨w.heap.size, 0, none⟩ = some (.int .i64 t) := k1
  have r2 : W0.drew.cell? ⟨w.heap.size, 1, none⟩ = some (.int .i64 p) := k2
  have d1 : decide ((n : Int) < 1) = false := decide_eq_false (by omega)
  have d2 : decide (62 < (n : Int)) = false := decide_eq_false (by omega)
  clear hl ht hp hx h1 h2 fb h62
  go_enter Try.func3, Try.ntmps3
  go_upto_region 1 with fail
  rw [← hW0]; clear hW0
  go_upto_region 3 with (go_at_call 7; refine (alive13_any _).mono ?_; rintro e w' ⟨rfl, rfl⟩)
  go_quiet (fail)
  go_upto_region 7 with first
    | (go_at_call 8; refine (H1.out _).mono ?_; rintro e w' ⟨rfl, rfl⟩)
    | (go_at_call 9; refine (H2.out _).mono ?_; rintro e w' ⟨rfl, rfl⟩)
    | (go_at_call 10; refine (H3.out _).mono ?_; rintro e w' ⟨rfl, rfl⟩)
  go_upto_region 8 with (go_at_call 11; refine (H4.out _).mono ?_; rintro e w4 ⟨rfl, hb⟩; have hb2 : Below W0.heap.size W0 w4 := ⟨hb.os, hb.tape, hb.output, hb.size, hb.block⟩; have B : Hid (Below w.heap.size w w4) := Lib.hid (B.out.trans (hb2.mono B.out.size)); clear hb)
  go_upto_region 12 with (go_at_call 12; refine (num_any E _ HE.out.1 HE.out.2).mono ?_; rintro e w' ⟨rfl, rfl⟩)
  go_wp2_with first
    | (go_at_call 14; refine (HF.out _).mono ?_; rintro e w' ⟨rfl, rfl⟩)
    | (go_at_call_of 16 (Value.int IntKind.i64 t); refine (HT.out _).mono ?_; rintro e w5 ⟨v5, rfl, bv, hb⟩; have V5 := Lib.hid bv; have B := Lib.hid (B.out.trans (hb.mono B.out.size)); clear bv hb HT)
    | (go_at_call 16; refine (HP.out _).mono ?_; rintro e w6 ⟨v6, rfl, bv, hb⟩; have V6 := Lib.hid bv; have V5 := Lib.hid (V5.out.below hb); have B := Lib.hid (B.out.trans (hb.mono B.out.size)); clear bv hb)
    | (go_at_call 15; refine (HNr.out _ _ _ V5.out V6.out).mono ?_; rintro e w7 ⟨rfl, hb⟩; have B := Lib.hid (B.out.trans (hb.mono B.out.size)); clear hb)
  go_ret
  exact ⟨by simp, B.out⟩
theorem erabits_walk (t p x b : Int) (w : World) (ht : fits t) (hp : fits p) (hx : 0 ≤ x ∧ x < 18446744073709551616) (hb : fits b) :
    Calls Try.prog 3 #[.agg #[.int .i64 t, .int .i64 p], .int .u64 x, .int .i64 b] w fun e w' => e = .returned (.bool true) ∧ Below w.heap.size w w' := by
  cases h : okb b with
  | false => exact erabits_no t p x b w h
  | true =>
    obtain ⟨n, rfl, h1, h2⟩ := okb_of h
    exact erabits_yes t p x n w ht hp hx h1 h2
end Go.Proofs.Ytdonicaiimeleaa
