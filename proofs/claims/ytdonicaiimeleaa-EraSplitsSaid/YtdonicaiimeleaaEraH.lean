/- EraSplits. -/
import Derived.Test.YtdonicaiimeleaaEraF
namespace Go.Proofs.Ytdonicaiimeleaa
open Go.RowKit
set_option linter.unusedVariables false
set_option linter.unusedSimpArgs false

set_option maxRecDepth 100000 in
set_option maxHeartbeats 6400000 in
theorem erasplits_walk (t c s : Int) (w : World) (ht : fits t) (hc : fits c) (hs : 0 ≤ s ∧ s < 4294967296) :
    Calls Try.prog 5 #[.int .i64 t, .int .i64 c, .int .u32 s] w fun e w' => e = .returned (.bool true) ∧ Below w.heap.size w w' := by
  have q0 := fun op t W x k => guard_ev op t W x k
  have q1 := fun W k => eql_ev W k
  have q2 := fun W k => neq_ev W k
  have H1 := Lib.hid (fun w => split13_any t w ht)
  have H2 := Lib.hid (fun w => rfold_any t 32 w ht (by omega))
  rw [show fo t 32 = t % 4294967296 by unfold fo; rw [pw_32]] at H2
  have e1 : IntKind.i64.wrap (t % 4294967296) = t % 4294967296 := IntWalk.i64_in _ (by omega)
  have e2 : IntKind.i64.wrap s = s := IntWalk.i64_in _ (by omega)
  have fa : fits (t / 4294967296) := by unfold fits at *; omega
  have HA := Lib.hid (fun w => of_any (t / 4294967296) w fa)
  have HR := Lib.hid (fun w => of_any (t % 4294967296) w (by unfold fits; omega))
  have HC := Lib.hid (fun w => of_any c w hc)
  have HS := Lib.hid (fun w => of_any s w (by unfold fits; omega))
  have HPw := Lib.hid (fun w => power_any 32 w (by omega))
  have hback : t / 4294967296 * pw 32 + t % 4294967296 = t := by rw [pw_32]; omega
  have HB := Lib.hid hback
  have HT := Lib.hid ht
  have HJ := Lib.hid (fun w => join_any c s w hc hs.1 hs.2)
  rw [show (4294967296 : Int) = pw 32 from pw_32.symm] at HJ
  have HE := Lib.hid (bad_lo (c * pw 32 + s))
  generalize t / 4294967296 = a at *
  generalize t % 4294967296 = r at *
  clear fa hback ht hc hs
  have B : Hid (Below w.heap.size w w) := Lib.hid (Below.refl _ _)
  go_enter Try.func5, Try.ntmps5
  go_upto_region 6 with first
    | (go_at_call 7; refine (alive13_any _).mono ?_; rintro e w' ⟨rfl, rfl⟩)
    | (go_at_call 23; refine (H1.out _).mono ?_; rintro e w' ⟨rfl, rfl⟩)
    | (go_at_call 14; refine (H2.out _).mono ?_; rintro e w' ⟨rfl, rfl⟩)
  go_upto_region 7 with first
    | (go_at_call_of 16 (Value.int IntKind.i64 a); refine (HA.out _).mono ?_; rintro e w11 ⟨v11, rfl, bv, hb⟩; have V11 := Lib.hid bv; have B := Lib.hid (B.out.trans (hb.mono B.out.size)); clear bv hb)
    | (go_at_call 26; refine (HPw.out _).mono ?_; rintro e w12 ⟨v12, rfl, bv, hb⟩; have V12 := Lib.hid bv; have V11 := Lib.hid (V11.out.below hb); have B := Lib.hid (B.out.trans (hb.mono B.out.size)); clear bv hb)
    | (go_at_call 25; refine (times_big _ _ a (pw 32) 4 (32 + 4) _ V11.out V12.out (by omega) (by omega)).mono ?_; rintro e w13 ⟨v13, rfl, bv, hb⟩; have V13 := Lib.hid bv; have B := Lib.hid (B.out.trans (hb.mono B.out.size)); clear bv hb)
    | (go_at_call_of 16 (Value.int IntKind.i64 r); refine (HR.out _).mono ?_; rintro e w14 ⟨v14, rfl, bv, hb⟩; have V14 := Lib.hid bv; have V13 := Lib.hid (V13.out.below hb); have B := Lib.hid (B.out.trans (hb.mono B.out.size)); clear bv hb)
    | (go_at_call 24; refine (plus_big _ _ (a * pw 32) r (4 + (32 + 4) + 1) 4 _ V13.out V14.out (by omega) (by omega)).mono ?_; rintro e w15 ⟨v15, rfl, bv, hb⟩; obtain ⟨sb, As, ns, cs, rfl⟩ := bv.open_; have V15 := Lib.hid bv; have B := Lib.hid (B.out.trans (hb.mono B.out.size)); clear bv hb)
  have PT := Bx.new V15.out
  have hb := bel_al w15 #[.bool sb, .slice As ns cs] 42
  have B := Lib.hid (B.out.trans (hb.mono B.out.size))
  generalize World.alloc w15 _ = W9 at *
  generalize w15.heap.size = gt at *
  rw [HB.out] at PT
  have HP := Lib.hid PT
  clear PT hb
  obtain ⟨xb, Xb, nb, cb, k1, k2, -, -, hv⟩ := HP.out.cells
  have VX := Lib.hid hv
  clear hv
  have s1 : sm t = t := sm_fit HT.out
  have s2 : bad t = 0 := bad_fit HT.out
  have HSm := Lib.hid (fun v w hv => small_any v t _ w hv (show max (4 + (32 + 4) + 1) 4 + 1 ≤ 1000 by omega))
  rw [s1, s2] at HSm
  clear s1 s2
  go_upto_region 10 with (go_at_call 27; refine (HSm.out _ _ VX.out).mono ?_; rintro e w16 ⟨rfl, hb⟩; have B := Lib.hid (B.out.trans (hb.mono B.out.size)); clear hb k1 k2)
  go_upto_region 12 with first
    | (go_at_call 28; refine (HJ.out _).mono ?_; rintro e w' ⟨rfl, rfl⟩)
    | (go_at_call_of 16 (Value.int IntKind.i64 c); refine (HC.out _).mono ?_; rintro e w21 ⟨v21, rfl, bv, hb⟩; have V21 := Lib.hid bv; have B := Lib.hid (B.out.trans (hb.mono B.out.size)); clear bv hb)
    | (go_at_call 26; refine (HPw.out _).mono ?_; rintro e w22 ⟨v22, rfl, bv, hb⟩; have V22 := Lib.hid bv; have V21 := Lib.hid (V21.out.below hb); have B := Lib.hid (B.out.trans (hb.mono B.out.size)); clear bv hb)
    | (go_at_call 25; refine (times_big _ _ c (pw 32) 4 (32 + 4) _ V21.out V22.out (by omega) (by omega)).mono ?_; rintro e w23 ⟨v23, rfl, bv, hb⟩; have V23 := Lib.hid bv; have B := Lib.hid (B.out.trans (hb.mono B.out.size)); clear bv hb)
    | (go_at_call_of 16 (Value.int IntKind.i64 s); refine (HS.out _).mono ?_; rintro e w24 ⟨v24, rfl, bv, hb⟩; have V24 := Lib.hid bv; have V23 := Lib.hid (V23.out.below hb); have B := Lib.hid (B.out.trans (hb.mono B.out.size)); clear bv hb)
    | (go_at_call 24; refine (plus_big _ _ (c * pw 32) s (4 + (32 + 4) + 1) 4 _ V23.out V24.out (by omega) (by omega)).mono ?_; rintro e w25 ⟨v25, rfl, bv, hb⟩; have V25 := Lib.hid bv; have B := Lib.hid (B.out.trans (hb.mono B.out.size)); clear bv hb)
    | (go_at_call 27; refine (small_any _ (c * pw 32 + s) _ _ V25.out (by omega)).mono ?_; rintro e w26 ⟨rfl, hb⟩; have B := Lib.hid (B.out.trans (hb.mono B.out.size)); clear hb)
  go_wp2_with (go_at_call 12; refine (num_any _ _ HE.out.1 HE.out.2).mono ?_; rintro e w' ⟨rfl, rfl⟩)
  go_ret
  exact ⟨by simp, B.out⟩
end Go.Proofs.Ytdonicaiimeleaa
