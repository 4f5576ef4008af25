/- Merged: FigB. -/
import Derived.Test.YtjbbnlcghnjlfaaGGpsTexts32
import Derived.Test.YtjbbnlcghnjlfaaGGpsTexts14
import Derived.Lib.SmallJoins
namespace Go.Proofs.Ytjbbnlcghnjlfaa
open Go.RowKit
set_option linter.unusedVariables false

/-- The greatest number, and one more. -/
def mx : Nat := 9223372036854775807
def mxn : Nat := 9223372036854775808
theorem mx_is : ((mx : Nat) : Int) = 9223372036854775807 := rfl
theorem mxn_is : ((mxn : Nat) : Int) = 9223372036854775808 := rfl

theorem ftake_any (s : ByteArray) (a b : Int) (w : World) (hs : s.size ≤ maxLen) (ha : fits a) (hb : fits b) :
    Calls Try.prog 57 #[.string s, .int .i64 a, .int .i64 b] w fun e w' =>
      e = .returned (.tuple #[.int .i64 (tkN s.data.toList a b mx : Nat), .int .i64 (tkK s.data.toList a b mx : Nat), ev (tkE s.data.toList a b mx)]) ∧ w = w' := by
  have ht := take_any s a b mx w hs ha hb (by decide) (by decide)
  rw [mx_is] at ht
  have hN := tkN_le s.data.toList a b mx
  generalize tkN s.data.toList a b mx = N at *
  generalize tkK s.data.toList a b mx = K at *
  generalize tkE s.data.toList a b mx = E at *
  have HT := Lib.hid ht
  have hN' : (N : Int) ≤ 9223372036854775807 := by have := mx_is; omega
  clear ht hN ha hb
  go_enter Try.func57, Try.ntmps57
  go_wp2_with (go_at_call 75; refine HT.out.mono ?_; rintro e w' ⟨rfl, rfl⟩)
  go_ret3
  exact ⟨rfl, rfl⟩

theorem fwhole_any (s : ByteArray) (a b : Int) (w : World) (hs : s.size ≤ maxLen) (ha : fits a) (hb : fits b) :
    Calls Try.prog 61 #[.string s, .int .i64 a, .int .i64 b] w fun e w' =>
      e = .returned (.tuple #[.int .i64 (whN s.data.toList a b mx : Nat), ev (whE s.data.toList a b mx)]) ∧ w = w' := by
  have ht := whole_any s a b mx w hs ha hb (by decide) (by decide)
  rw [mx_is] at ht
  have hN := whN_le s.data.toList a b mx
  generalize whN s.data.toList a b mx = N at *
  generalize whE s.data.toList a b mx = E at *
  have HT := Lib.hid ht
  have hN' : (N : Int) ≤ 9223372036854775807 := by have := mx_is; omega
  clear ht hN ha hb
  go_enter Try.func61, Try.ntmps61
  go_wp2_with (go_at_call 60; refine HT.out.mono ?_; rintro e w' ⟨rfl, rfl⟩)
  go_ret2
  exact ⟨rfl, rfl⟩

/-! ### the library's calls -/
theorem cutp_any (s : ByteArray) (c : UInt8) (w : World) :
    Calls Try.prog 59 #[.string s, .string ⟨#[c]⟩] w fun e w' => e = .returned (.tuple #[.string ⟨(Lib.trimPrefix s.data.toList [c]).toArray⟩, .bool (Lib.hasPrefix s.data.toList [c])]) ∧ w = w' :=
  (Try.strings_CutPrefix s ⟨#[c]⟩ w).mono fun e w' ⟨he, hw⟩ => ⟨he, hw.symm⟩
theorem trimp_any (s : ByteArray) (c : UInt8) (w : World) :
    Calls Try.prog 62 #[.string s, .string ⟨#[c]⟩] w fun e w' => e = .returned (.string ⟨(Lib.trimPrefix s.data.toList [c]).toArray⟩) ∧ w = w' :=
  (Try.strings_TrimPrefix s ⟨#[c]⟩ w).mono fun e w' ⟨he, hw⟩ => ⟨he, hw.symm⟩

/-! ### Signed -/
def neg1 (l : List UInt8) : Bool := Lib.hasPrefix l [45]
def sgE (l : List UInt8) (m : Int) : Int := if neg1 l then whE (Lib.trimPrefix l [45]) 1 m mxn else whE (Lib.trimPrefix l [43]) 1 m mx
def sgN (l : List UInt8) (m : Int) : Int := if neg1 l then - (whN (Lib.trimPrefix l [45]) 1 m mxn : Int) else (whN (Lib.trimPrefix l [43]) 1 m mx : Int)

theorem trim_size (s : ByteArray) (c : UInt8) (hs : s.size ≤ maxLen) : (⟨(Lib.trimPrefix s.data.toList [c]).toArray⟩ : ByteArray).size ≤ maxLen := by
  rw [Lib.size_mk]
  have := Lib.trimPrefix_le s.data.toList [c]
  have e : s.data.toList.length = s.size := by simp
  omega

set_option maxHeartbeats 800000 in
theorem signed_any (s : ByteArray) (m : Int) (w : World) (hs : s.size ≤ maxLen) (hm : fits m) :
    Calls Try.prog 31 #[.string s, .int .i64 m] w fun e w' =>
      e = .returned (.tuple #[.int .i64 (sgN s.data.toList m), ev (sgE s.data.toList m)]) ∧ w = w' := by
  cases hn : neg1 s.data.toList
  · have hE : sgE s.data.toList m = whE (Lib.trimPrefix s.data.toList [43]) 1 m mx := by unfold sgE; rw [hn]; rfl
    have hN : sgN s.data.toList m = (whN (Lib.trimPrefix s.data.toList [43]) 1 m mx : Int) := by unfold sgN; rw [hn]; rfl
    rw [hE, hN]; clear hE hN
    have ht := fwhole_any _ 1 m w (trim_size s 43 hs) (by decide) hm
    have hc := cutp_any s 45 w
    rw [show Lib.hasPrefix s.data.toList [45] = false from hn] at hc
    have hp := trimp_any s 43 w
    simp only at ht
    generalize Lib.trimPrefix s.data.toList [45] = l1 at *
    generalize Lib.trimPrefix s.data.toList [43] = l2 at *
    generalize whN l2 1 m mx = N at *
    generalize whE l2 1 m mx = E at *
    have HT := Lib.hid ht; have HC := Lib.hid hc; have HP := Lib.hid hp
    clear ht hc hp hn hm
    go_enter Try.func31, Try.ntmps31
    go_wp2_with (first
      | (go_at_call 59; refine HC.out.mono ?_; rintro e w' ⟨rfl, rfl⟩)
      | (go_at_call 62; refine HP.out.mono ?_; rintro e w' ⟨rfl, rfl⟩)
      | (go_at_call 61; refine HT.out.mono ?_; rintro e w' ⟨rfl, rfl⟩))
    go_ret2
    exact ⟨rfl, rfl⟩
  · have hE : sgE s.data.toList m = whE (Lib.trimPrefix s.data.toList [45]) 1 m mxn := by unfold sgE; rw [hn]; rfl
    have hN : sgN s.data.toList m = - (whN (Lib.trimPrefix s.data.toList [45]) 1 m mxn : Int) := by unfold sgN; rw [hn]; rfl
    rw [hE, hN]; clear hE hN
    have ht := whole_any _ 1 m mxn w (trim_size s 45 hs) (by decide) hm (by decide) (by decide)
    rw [mxn_is] at ht
    have hc := cutp_any s 45 w
    rw [show Lib.hasPrefix s.data.toList [45] = true from hn] at hc
    simp only at ht
    generalize Lib.trimPrefix s.data.toList [45] = l1 at *
    have hN := whN_le l1 1 m mxn
    generalize whN l1 1 m mxn = N at *
    generalize whE l1 1 m mxn = E at *
    have hN' : (N : Int) ≤ 9223372036854775808 := by have := mxn_is; omega
    have hw : wrap64 (IntKind.u64.wrap (-(N : Int))) = -(N : Int) := by
      unfold wrap64; simp [IntKind.wrap, IntKind.signed, IntKind.bits]; omega
    have HT := Lib.hid ht; have HC := Lib.hid hc; have HN := Lib.hid hN'; have HW := Lib.hid hw
    clear ht hc hn hm hN hN' hw
    go_enter Try.func31, Try.ntmps31
    go_wp2_with (first
      | (go_at_call 59; refine HC.out.mono ?_; rintro e w' ⟨rfl, rfl⟩)
      | (go_at_call 60; refine HT.out.mono ?_; rintro e w' ⟨rfl, rfl⟩))
    go_ret2
    refine ⟨ret2_eq (int_eq ?_) rfl, rfl⟩
    exact HW.out

/-! ### Fraction -/
end Go.Proofs.Ytjbbnlcghnjlfaa
