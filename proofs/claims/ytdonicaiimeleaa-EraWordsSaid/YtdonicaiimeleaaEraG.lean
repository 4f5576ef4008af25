/- EraWords. -/
import Derived.Test.YtdonicaiimeleaaEraF
namespace Go.Proofs.Ytdonicaiimeleaa
open Go.RowKit
set_option linter.unusedVariables false
set_option linter.unusedSimpArgs false

set_option maxRecDepth 100000 in
set_option maxHeartbeats 6400000 in
theorem erawords_walk (t p x : Int) (w : World) (ht : fits t) (hp : fits p) (hx : 0 ≤ x ∧ x < 4294967296) :
    Calls Try.prog 4 #[.int .i64 t, .int .i64 p, .int .u32 x] w fun e w' => e = .returned (.bool true) ∧ Below w.heap.size w w' := by
  have q0 := fun op t W x k => guard_ev op t W x k
  have q1 := fun W k => eql_ev W k
  have q2 := fun W k => neq_ev W k
  have F8 := Lib.hid (fun w => fold8_any t w)
  have R8 := Lib.hid (fun w => rfold_any t 8 w ht (by omega))
  rw [show fo t 8 = t % 256 by unfold fo; rw [pw_8]] at R8
  have b8 : 0 ≤ t % 256 ∧ t % 256 < 256 := by omega
  have e8 : IntKind.i64.wrap (t % 256) = t % 256 := IntWalk.i64_in _ (by omega)
  have x8 : IntKind.u8.wrap x = x % 256 := IntKind.wrap_u8 x
  have c8 : IntKind.u64.wrap (x % 256) = x % 256 := IntWalk.u64_in _ (by omega)
  have U8 := Lib.hid (fun w => unfold8_any (x % 256) p w (by omega) (by omega) hp)
  have D8 := Lib.hid (fun w => rbits_any (x % 256) 8 p w (by omega) hp)
  have E8 := Lib.hid (bsE_lo (x % 256) 8 p)
  generalize bsE (x % 256) 8 p = n8 at *
  generalize bsV (x % 256) 8 p = v8 at *
  have F16 := Lib.hid (fun w => fold16_any t w)
  have R16 := Lib.hid (fun w => rfold_any t 16 w ht (by omega))
  rw [show fo t 16 = t % 65536 by unfold fo; rw [pw_16]] at R16
  have b16 : 0 ≤ t % 65536 ∧ t % 65536 < 65536 := by omega
  have e16 : IntKind.i64.wrap (t % 65536) = t % 65536 := IntWalk.i64_in _ (by omega)
  have x16 : IntKind.u16.wrap x = x % 65536 := IntKind.wrap_u16 x
  have c16 : IntKind.u64.wrap (x % 65536) = x % 65536 := IntWalk.u64_in _ (by omega)
  have U16 := Lib.hid (fun w => unfold16_any (x % 65536) p w (by omega) (by omega) hp)
  have D16 := Lib.hid (fun w => rbits_any (x % 65536) 16 p w (by omega) hp)
  have E16 := Lib.hid (bsE_lo (x % 65536) 16 p)
  generalize bsE (x % 65536) 16 p = n16 at *
  generalize bsV (x % 65536) 16 p = v16 at *
  have F32 := Lib.hid (fun w => fold32_any t w)
  have R32 := Lib.hid (fun w => rfold_any t 32 w ht (by omega))
  rw [show fo t 32 = t % 4294967296 by unfold fo; rw [pw_32]] at R32
  have b32 : 0 ≤ t % 4294967296 ∧ t % 4294967296 < 4294967296 := by omega
  have e32 : IntKind.i64.wrap (t % 4294967296) = t % 4294967296 := IntWalk.i64_in _ (by omega)
  have c32 : IntKind.u64.wrap x = x := IntWalk.u64_in _ (by omega)
  have U32 := Lib.hid (fun w => unfold32_any x p w (by omega) (by omega) hp)
  have D32 := Lib.hid (fun w => rbits_any x 32 p w (by omega) hp)
  have E32 := Lib.hid (bsE_lo x 32 p)
  generalize bsE x 32 p = n32 at *
  generalize bsV x 32 p = v32 at *
  clear b8 b16 b32 ht hp hx
  generalize t % 256 = t8 at *
  generalize t % 65536 = t16 at *
  generalize t % 4294967296 = t32 at *
  generalize x % 256 = y8 at *
  generalize x % 65536 = y16 at *
  have B : Hid (Below w.heap.size w w) := Lib.hid (Below.refl _ _)
  go_enter Try.func4, Try.ntmps4
  go_upto_region 8 with first
    | (go_at_call 7; refine (alive13_any _).mono ?_; rintro e w' ⟨rfl, rfl⟩)
    | (go_at_call 17; refine (F8.out _).mono ?_; rintro e w' ⟨rfl, rfl⟩)
    | (go_at_call 18; refine (F16.out _).mono ?_; rintro e w' ⟨rfl, rfl⟩)
    | (go_at_call 19; refine (F32.out _).mono ?_; rintro e w' ⟨rfl, rfl⟩)
    | (go_at_call_of 14 (Value.int IntKind.i64 8); refine (R8.out _).mono ?_; rintro e w' ⟨rfl, rfl⟩)
    | (go_at_call_of 14 (Value.int IntKind.i64 16); refine (R16.out _).mono ?_; rintro e w' ⟨rfl, rfl⟩)
    | (go_at_call_of 14 (Value.int IntKind.i64 32); refine (R32.out _).mono ?_; rintro e w' ⟨rfl, rfl⟩)
    | (go_at_call 20; refine (U8.out _).mono ?_; rintro e w' ⟨rfl, rfl⟩)
    | (go_at_call 21; refine (U16.out _).mono ?_; rintro e w' ⟨rfl, rfl⟩)
    | (go_at_call 22; refine (U32.out _).mono ?_; rintro e w' ⟨rfl, rfl⟩)
  go_upto_region 11 with first
    | (go_at_call_of 11 (Value.int IntKind.i64 8); refine (D8.out _).mono ?_; rintro e w8 ⟨rfl, hb⟩; have B := Lib.hid (B.out.trans (hb.mono B.out.size)); clear hb)
    | (go_at_call_of 11 (Value.int IntKind.i64 16); refine (D16.out _).mono ?_; rintro e w16 ⟨rfl, hb⟩; have B := Lib.hid (B.out.trans (hb.mono B.out.size)); clear hb)
    | (go_at_call_of 11 (Value.int IntKind.i64 32); refine (D32.out _).mono ?_; rintro e w32 ⟨rfl, hb⟩; have B := Lib.hid (B.out.trans (hb.mono B.out.size)); clear hb)
  go_wp2_with first
    | (go_at_call_of 12 (ev n8); refine (num_any n8 _ E8.out.1 E8.out.2).mono ?_; rintro e w' ⟨rfl, rfl⟩)
    | (go_at_call_of 12 (ev n16); refine (num_any n16 _ E16.out.1 E16.out.2).mono ?_; rintro e w' ⟨rfl, rfl⟩)
    | (go_at_call_of 12 (ev n32); refine (num_any n32 _ E32.out.1 E32.out.2).mono ?_; rintro e w' ⟨rfl, rfl⟩)
  go_ret
  exact ⟨by simp, B.out⟩
end Go.Proofs.Ytdonicaiimeleaa
