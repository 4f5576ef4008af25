/- Merged: FigB. -/
import Derived.Test.YtkhcneacjnpcnaaGreatDoorGPosixChecks5
import Derived.Test.YtkhcneacjnpcnaaGreatDoorGPosixChecks6
import Derived.Lib.SmallJoins
namespace Go.Proofs.YtkhcneacjnpcnaaGreatDoor
open Go.RowKit
set_option linter.unusedVariables false

/-- The greatest number, and one more. -/
def mx : Nat := 9223372036854775807
theorem mx_is : ((mx : Nat) : Int) = 9223372036854775807 := rfl
theorem ftake_any (s : ByteArray) (a b : Int) (w : World) (hs : s.size ≤ maxLen) (ha : fits a) (hb : fits b) :
    Calls Tryz.prog 78 #[.string s, .int .i64 a, .int .i64 b] w fun e w' =>
      e = .returned (.tuple #[.int .i64 (tkN s.data.toList a b mx : Nat), .int .i64 (tkK s.data.toList a b mx : Nat), ev (tkE s.data.toList a b mx)]) ∧ w = w' := by
  have ht := take_any s a b mx w hs ha hb (by decide) (by decide)
  rw [mx_is] at ht
  have hN := tkN_le s.data.toList a b mx
  generalize tkN s.data.toList a b mx = N at *
  generalize tkK s.data.toList a b mx = K at *
  generalize tkE s.data.toList a b mx = E at *
  have HT := Lib.hid ht
  have hN' : (N : Int) ≤ 9223372036854775807 := by have := mx_is; omega
  clear ht hN ha hb
  go_enter Tryz.func78, Tryz.ntmps78
  go_wp2_with (go_at_call 87; refine HT.out.mono ?_; rintro e w' ⟨rfl, rfl⟩)
  go_ret3
  exact ⟨rfl, rfl⟩

/-! ### the library's calls -/
theorem cutp_any (s : ByteArray) (c : UInt8) (w : World) :
    Calls Tryz.prog 74 #[.string s, .string ⟨#[c]⟩] w fun e w' => e = .returned (.tuple #[.string ⟨(Lib.trimPrefix s.data.toList [c]).toArray⟩, .bool (Lib.hasPrefix s.data.toList [c])]) ∧ w = w' :=
  (Tryz.strings_CutPrefix s ⟨#[c]⟩ w).mono fun e w' ⟨he, hw⟩ => ⟨he, hw.symm⟩
/-! ### Signed -/
/-! ### Fraction -/
end Go.Proofs.YtkhcneacjnpcnaaGreatDoor
