/- Package figures: Take, Whole, Signed, Fraction; the library's calls. -/
import Derived.Test.YtkhcneacjnpcnaaDoorFigA
import Derived.Test.YtkhcneacjnpcnaaDoorShelf
import Derived.Lib.SmallJoins
namespace Go.Proofs.YtkhcneacjnpcnaaDoor
open Go.RowKit
set_option linter.unusedVariables false

/-- The greatest number, and one more. -/
def mx : Nat := 9223372036854775807
def mxn : Nat := 9223372036854775808
theorem mx_is : ((mx : Nat) : Int) = 9223372036854775807 := rfl
theorem mxn_is : ((mxn : Nat) : Int) = 9223372036854775808 := rfl

theorem ftake_any (s : ByteArray) (a b : Int) (w : World) (hs : s.size ≤ maxLen) (ha : fits a) (hb : fits b) :
    Calls Tryd.prog 62 #[.string s, .int .i64 a, .int .i64 b] w fun e w' =>
      e = .returned (.tuple #[.int .i64 (tkN s.data.toList a b mx : Nat), .int .i64 (tkK s.data.toList a b mx : Nat), ev (tkE s.data.toList a b mx)]) ∧ w = w' := by
  have ht := take_any s a b mx w hs ha hb (by decide) (by decide)
  rw [mx_is] at ht
  have hN := tkN_le s.data.toList a b mx
  generalize tkN s.data.toList a b mx = N at *
  generalize tkK s.data.toList a b mx = K at *
  generalize tkE s.data.toList a b mx = E at *
  have HT := Lib.hid ht
  have hN' : (N : Int) ≤ 9223372036854775807 := by have := mx_is; omega
  clear ht hN ha hb
  go_enter Tryd.func62, Tryd.ntmps62
  go_wp2_with (go_at_call 66; refine HT.out.mono ?_; rintro e w' ⟨rfl, rfl⟩)
  go_ret3
  exact ⟨rfl, rfl⟩

/-! ### the library's calls -/
theorem cutp_any (s : ByteArray) (c : UInt8) (w : World) :
    Calls Tryd.prog 63 #[.string s, .string ⟨#[c]⟩] w fun e w' => e = .returned (.tuple #[.string ⟨(Lib.trimPrefix s.data.toList [c]).toArray⟩, .bool (Lib.hasPrefix s.data.toList [c])]) ∧ w = w' :=
  (Tryd.strings_CutPrefix s ⟨#[c]⟩ w).mono fun e w' ⟨he, hw⟩ => ⟨he, hw.symm⟩
/-! ### Signed -/
def neg1 (l : List UInt8) : Bool := Lib.hasPrefix l [45]
def sgE (l : List UInt8) (m : Int) : Int := if neg1 l then whE (Lib.trimPrefix l [45]) 1 m mxn else whE (Lib.trimPrefix l [43]) 1 m mx
def sgN (l : List UInt8) (m : Int) : Int := if neg1 l then - (whN (Lib.trimPrefix l [45]) 1 m mxn : Int) else (whN (Lib.trimPrefix l [43]) 1 m mx : Int)

theorem trim_size (s : ByteArray) (c : UInt8) (hs : s.size ≤ maxLen) : (⟨(Lib.trimPrefix s.data.toList [c]).toArray⟩ : ByteArray).size ≤ maxLen := by
  rw [Lib.size_mk]
  have := Lib.trimPrefix_le s.data.toList [c]
  have e : s.data.toList.length = s.size := by simp
  omega

/-! ### Fraction -/
def frE (l : List UInt8) : Int := if 9 < l.length then 3 else whE l 1 9 mx
def frN (l : List UInt8) : Int := if frE l = 0 then ((dv l * 10 ^ (9 - l.length) : Nat) : Int) else 0
/-- What a short text's number is, if all of it are figures. -/
theorem wh_zero {l : List UInt8} {a b : Int} {lim : Nat} (h : whE l a b lim = 0) : lead l = l.length ∧ whN l a b lim = dv l ∧ a ≤ l.length ∧ (l.length : Int) ≤ b ∧ dv l ≤ lim := by
  have h1 : tkE l a b lim = 0 := by
    unfold whE at h; split at h
    · assumption
    · exact h
  have h2 : ¬ tkK l a b lim < l.length := by
    intro hlt
    unfold whE at h; rw [if_pos h1, if_pos hlt] at h; cases h
  have h3 : tkK l a b lim = tkk l b := by unfold tkK; rw [if_pos h1]
  have hle := lead_le l
  have h4 : tkk l b = l.length ∧ lead l = l.length := by unfold tkk at *; omega
  have h5 : tkN l a b lim = dv l := by
    unfold tkN; rw [if_pos h1, h4.1, List.take_of_length_le (Nat.le_refl _)]
  have h6 := tkN_le l a b lim
  have h7 : whN l a b lim = dv l := by unfold whN; rw [if_pos h, h5]
  have h8 : ¬ (tkk l b : Int) < a ∧ tkR a b = false := by
    unfold tkE at h1
    constructor
    · intro hh
      cases hR : tkR a b <;> simp [hR, hh] at h1
    · cases hR : tkR a b
      · rfl
      · rw [hR] at h1; simp at h1
  refine ⟨h4.2, h7, by omega, ?_, by omega⟩
  have h9 : (1 : Int) ≤ a ∧ a ≤ b := by have := h8.2; unfold tkR at this; simp at this; omega
  have := h4.1; unfold tkk at this; omega

end Go.Proofs.YtkhcneacjnpcnaaDoor
