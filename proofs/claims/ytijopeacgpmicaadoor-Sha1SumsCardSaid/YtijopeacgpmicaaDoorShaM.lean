/- Words of 32 bits as plain numbers; the digest's rounds. No walk stands here. -/
import Derived.Test.YtijopeacgpmicaaDoorNumM
import Derived.Laws.Entries
namespace Go.Proofs.YtijopeacgpmicaaDoor
open Go.RowKit
set_option linter.unusedVariables false

/-- A word's value. -/
def u (x : BitVec 32) : Int := (x.toNat : Int)
theorem u_lo (x : BitVec 32) : 0 ≤ u x := by unfold u; omega
theorem u_hi (x : BitVec 32) : u x ≤ 4294967295 := by unfold u; have := x.isLt; omega
theorem u_inj {x y : BitVec 32} (h : u x = u y) : x = y := by unfold u at h; exact BitVec.eq_of_toNat_eq (by omega)
theorem u_of {n : Int} (h : 0 ≤ n) (h' : n < 4294967296) : n = u (BitVec.ofNat 32 n.toNat) := by unfold u; rw [BitVec.toNat_ofNat]; omega
theorem wrap32 (n : Nat) : IntKind.u32.wrap (n : Int) = ((n % 4294967296 : Nat) : Int) := by
  simp [IntKind.wrap, IntKind.signed, IntKind.bits]
theorem of_u (x : BitVec 32) : BitVec.ofInt 32 (u x) = x := by
  unfold u; apply BitVec.eq_of_toNat_eq; simp
theorem u_and (x y : BitVec 32) : bits .and .u32 (u x) (u y) = u (x &&& y) := by
  unfold bits
  show IntKind.u32.wrap (((BitVec.ofInt 32 (u x) &&& BitVec.ofInt 32 (u y)).toNat : Nat) : Int) = _
  rw [of_u, of_u, wrap32, Nat.mod_eq_of_lt (x &&& y).isLt]; rfl
theorem u_or (x y : BitVec 32) : bits .or .u32 (u x) (u y) = u (x ||| y) := by
  unfold bits
  show IntKind.u32.wrap (((BitVec.ofInt 32 (u x) ||| BitVec.ofInt 32 (u y)).toNat : Nat) : Int) = _
  rw [of_u, of_u, wrap32, Nat.mod_eq_of_lt (x ||| y).isLt]; rfl
theorem u_xor (x y : BitVec 32) : bits .xor .u32 (u x) (u y) = u (x ^^^ y) := by
  unfold bits
  show IntKind.u32.wrap (((BitVec.ofInt 32 (u x) ^^^ BitVec.ofInt 32 (u y)).toNat : Nat) : Int) = _
  rw [of_u, of_u, wrap32, Nat.mod_eq_of_lt (x ^^^ y).isLt]; rfl
theorem u_not (x : BitVec 32) : bits .xor .u32 4294967295 (u x) = u (~~~x) := by
  have h : (4294967295 : Int) = u (BitVec.allOnes 32) := by decide
  rw [h, u_xor, BitVec.allOnes_xor]
theorem u_add (x y : BitVec 32) : IntKind.u32.wrap (u x + u y) = u (x + y) := by
  unfold u
  rw [show (x.toNat : Int) + (y.toNat : Int) = ((x.toNat + y.toNat : Nat) : Int) by omega, wrap32, BitVec.toNat_add]
theorem u_shl (x : BitVec 32) (k : Nat) : IntKind.u32.wrap (u x * 2 ^ k) = u (x <<< k) := by
  unfold u
  rw [show (x.toNat : Int) * 2 ^ k = ((x.toNat * 2 ^ k : Nat) : Int) by push_cast; rfl, wrap32, BitVec.toNat_shiftLeft, Nat.shiftLeft_eq]
theorem u_shr (x : BitVec 32) (k : Nat) : u x / 2 ^ k = u (x >>> k) := by
  unfold u
  rw [BitVec.toNat_ushiftRight, Nat.shiftRight_eq_div_pow, show (2 : Int) ^ k = ((2 ^ k : Nat) : Int) by push_cast; rfl]
  rfl

/-- A word turned left. -/
def rot (x : BitVec 32) (k : Nat) : BitVec 32 := x <<< k ||| x >>> (32 - k)
theorem rot_is (x : BitVec 32) (k : Nat) (h : k ≤ 32) : bits .or .u32 (IntKind.u32.wrap (u x * 2 ^ k)) (u x / 2 ^ (32 - k)) = u (rot x k) := by
  rw [u_shl, u_shr, u_or]; rfl

/-- The state. -/
structure St where
  a : BitVec 32
  b : BitVec 32
  c : BitVec 32
  d : BitVec 32
  e : BitVec 32
/-- A round's choice, its number, and the state behind it. -/
def ff (t : Nat) (b c d : BitVec 32) : BitVec 32 := if t ≤ 19 then (b &&& c) ||| (~~~b &&& d) else if t ≤ 39 then b ^^^ c ^^^ d else if t ≤ 59 then (b &&& c) ||| (b &&& d) ||| (c &&& d) else b ^^^ c ^^^ d
def kk (t : Nat) : BitVec 32 := if t ≤ 19 then 0x5a827999#32 else if t ≤ 39 then 0x6ed9eba1#32 else if t ≤ 59 then 0x8f1bbcdc#32 else 0xca62c1d6#32
def rd (t : Nat) (x : BitVec 32) (s : St) : St := ⟨rot s.a 5 + ff t s.b s.c s.d + s.e + kk t + x, s.a, rot s.b 30, s.c, s.d⟩

end Go.Proofs.YtijopeacgpmicaaDoor
